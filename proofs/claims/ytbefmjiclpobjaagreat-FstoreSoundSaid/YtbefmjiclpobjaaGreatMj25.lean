import Derived.Test.YtbefmjiclpobjaaGreatMj04
import Derived.Test.YtbefmjiclpobjaaGreatMj24
import Derived.Test.YtbefmjiclpobjaaGreatMj02
import Derived.Deep.Slices
import Derived.Deep.Fields
import Derived.ChangeArms
import Derived.Test.YtbefmjiclpobjaaGreatMj07
import Derived.Deep.DeepCutAuto
namespace Go.Proofs.YtbefmjiclpobjaaGreat
set_option maxHeartbeats 12800000
set_option maxRecDepth 3000
section
open Go.RowKit
def A1Y(w:World)(ps:List Pc)(x:Ending)(w':World):Prop:=∃A k,x= .returned (.tuple #[.slice A (A3j ps).length k,.int .i64 (A64 ps)])/\Rd w' 1 (.slice A (A3j ps).length k) (A3j ps).length ((A3j ps).map u8)/\B0 B5 w B5 w'
theorem A1Y.none{w w':World}{ps:List Pc}(h:¬Y7 ps)(J:B0 B5 w B5 w'):A1Y w ps (.returned (.tuple #[.slice none 0 0,.int .i64 4])) w':=by
 have e:A3j ps=[]:=by unfold A3j;rw[if_neg h]
 have I:A64 ps=4:=by unfold A64;rw[if_neg h]
 unfold A1Y
 rw[e,I]
 exact⟨Option.none,0,rfl,(Sl.nil _ 5 1).rd,J⟩
theorem A1Y.some{w w':World}{ps:List Pc}{A:Option Addr}{m k:Nat}(h:Y7 ps)(U:m=(M6 ps).length)(V:Rd w' 1 (.slice A m k) m ((M6 ps).map u8))(J:B0 B5 w B5 w'):A1Y w ps (.returned (.tuple #[.slice A m k,.int .i64 0])) w':=by
 have e:A3j ps=M6 ps:=by unfold A3j;rw[if_pos h]
 have I:A64 ps=0:=by unfold A64;rw[if_pos h]
 unfold A1Y
 rw[e,I,<-U]
 exact⟨A,k,rfl,V,J⟩
def C4M(w:World)(ps:List Pc)(t15 t4:Value)(wr:World):Prop:=
 ∃k m A q F,k<=ps.length/\t15= .int .i64 ((k:Nat):Int)/\t4= .slice A m q/\m=(M6 (ps.take k)).length/\m<=8192/\Sl wr F 5 1 (.slice A m q) m ((M6 (ps.take k)).map u8)/\B0 B5 w F wr
theorem B6U(A0:Option Addr)(k0:Nat)(ps:List Pc)(w:World)(h:PRd w (.slice A0 ps.length k0) ps)(hb:B8 ps)(hl:ps.length<=1100)(hd:∀p∈ps,p.d.length<=1000):
 Calls Tryz.prog 124 #[.slice A0 ps.length k0] w (A1Y w ps):=by
 obtain⟨N,hN⟩:∃N,N=ps.length:=⟨_,rfl⟩
 rw[<-hN]at h hl⊢
 have cF:(N:Int)<=1100:=by omega
 have HP:=C6x h
 have Y:=C6x hN
 have HB:=C6x hb
 have bU:=C6x hd
 clear h hb hl hd
 by_cases h0:N=0
 ·have hz:((N:Int)==0)=true:=by rw[beq_iff_eq];omega
  have aM:=C6x (show¬Y7 ps fromλh=>by have:=h.1;omega)
  clear h0 hN cF
  go_enter Tryz.func124,Tryz.ntmps124
  go_wp2_with fail
  all_goals
   exact bodyPost_ret (v:=.tuple #[.slice none 0 0,.int .i64 4]) (by simp[results,Tryz.results124,go_sem]) rfl (A1Y.none aM.out (B0.refl _ _))
 ·have hz:((N:Int)==0)=false:=by rw[beq_eq_false_iff_ne];omega
  have bB:0<N:=by omega
  have H0:=C6x bB
  obtain⟨g,hg⟩:∃g,g=w.heap.size:=⟨_,rfl⟩
  obtain⟨V,hV⟩:∃V,V=w.alloc (.cells #[] 5):=⟨_,rfl⟩
  have bP:Sl V (λj=>j=g) 5 1 (.slice (some ⟨g,0,none⟩) 0 0) 0 []:=by
   rw[hV,hg]
   exact⟨A07 (World.ownsRow_made w #[] 0 (Nat.le_refl _) (Nat.zero_le _) rfl),λk hk=>by simpa[Value.ownBlock]using hk.symm,λk hk=>by subst hk;simp⟩
  have hA:B0 B5 w (λj=>j=g) V:=by
   rw[hV,hg]
   have:=(B0.refl B5 w).alloc (.cells #[] 5)
   exact⟨this.os,this.tape,this.output,this.size,λj hj h=>this.block j hj h,λj hj=>.inr (by omega)⟩
  have cD:=C6x bP
  have bQ:=C6x hA
  have HV:=C6x hV
  have HG:=C6x hg
  clear h0 bB hN bP hA hV hg
  go_enter Tryz.func124,Tryz.ntmps124
  go_upto_region 4 with(fail)
  rw[<-HV.out,<-HG.out]
  go_wp2_with fail
  go_loopw [15,4] (C4M w ps) (λt _ _=>N-(intOf t).toNat)
  case atStart=>exact⟨0,0,_,_,_,Nat.zero_le _,rfl,rfl,by simp[M6],Nat.zero_le _,by simpa[M6]using cD.out,bQ.out⟩
  case round=>
   obtain⟨k,m,A,q,F,hk,rfl,rfl,hm,aR,hs,ha⟩:=hrel
   rw[<-Y.out]at hk
   by_cases aD:k<N
   ·have cM:(k:Int)<(N:Int):=by omega
    have aQ:k<ps.length:=by rw[<-Y.out];exact aD
    obtain⟨X,Z,a1,q1,rfl,aJ,aA,aB⟩:=(HP.out.step ha).row aQ
    obtain⟨p,hp⟩:∃p,p=ps[k]:=⟨_,rfl⟩
    have bO:ps[k]? =some p:=by rw[hp];exact List.getElem?_eq_getElem aQ
    have bM:p.d.length<=1000:=by rw[hp];exact bU.out _ (List.getElem_mem _)
    rw[<-hp]at aA aB
    obtain⟨I,J,pf,pg,D⟩:=p
    obtain⟨d,hd⟩:∃d,d=D.length:=⟨_,rfl⟩
    simp only[<-hd]at aA aB bM
    obtain⟨z,aV⟩:∃z,z=wr.heap.size:=⟨_,rfl⟩
    obtain⟨U,hU⟩:∃U,U=wr.alloc (.cells #[.int .u64 (I:Int),.int .u64 (J:Int),.bool pf,.bool pg,.slice a1 d q1] 201):=⟨_,rfl⟩
    have hZ:C3 U z 201 #[.int .u64 (I:Int),.int .u64 (J:Int),.bool pf,.bool pg,.slice a1 d q1]:=by rw[hU,aV];exact C3.new _ _ _
    have aC:B0 B5 wr B5 U:=by rw[hU];exact(B0.refl _ _).alloc _
    have HS:=C6x (hs.far aC (λ_ h _=>h))
    have aG:=C6x (aB.far (λ_ _ _ h=>aC.block _ h (λh=>h)) aC.size)
    have cE:=C6x hZ.five
    have HZ:=C6x aV
    have HU:=C6x hU
    have aW:=C6x (ha.over aC)
    have bZ:=C6x aD
    have bA:=C6x bO
    have HM:=C6x hm
    have HD:=C6x hd
    have cL:(d:Int)<=1000:=by omega
    have cN:(m:Int)<=8192:=by omega
    obtain⟨c0,c1,c2,c3,c4⟩:=aA
    clear aQ aJ aB hp bM hd aV hU hZ aC bO aD hk hm aR hs ha
    go_upto_region 7 with(fail)
    rw[<-HU.out,<-HZ.out]
    obtain⟨z0,z1,z2,z3,z4⟩:=cE.out
    clear c0 c1 c2 c3 c4
    by_cases bH:(8192:Int)-(m:Int)<(d:Int)
    ·have bS:=C6x bH
     go_wp2_with fail
     refine bodyPost_ret (v:=.tuple #[.slice none 0 0,.int .i64 4]) (by simp[results,Tryz.results124,go_sem]) rfl (A1Y.none (λh=>?_) (aW.out.sub (λ_ h=>h.elim)))
     have h1:=A9y ps (k+1)
     rw[A2d bA.out,List.length_append]at h1
     have h2:=h.2.2
     have h3:=HM.out
     have h4:=HD.out
     have h5:=bS.out
     simp only at h1
     omega
    ·have cH:(d:Int)<=8192-(m:Int):=by omega
     have bY:=C6x cH
     clear bH
     go_wp2_with (first
      |(at_builtin;refine A4F rfl (.tmp 26) (.tmp 28) rfl rfl rfl HS.out.own aG.out (T5 _) ?d1 ?d2)
      |fail)
     case d1=>omega
     case d2=>
      intro v4 w4 bK bJ bG
      obtain⟨h4,_,a4⟩:=A4E HS.out aW.out bK bJ bG (Nat.le_refl _)
      rw[<-List.map_append]at h4
      obtain⟨A4,c4,rfl,_,_⟩:=h4.form0
      have H4:=C6x h4
      have A4:=C6x a4
      clear h4 a4 bK bJ bG
      go_wp2_with fail
      have aD:=bZ.out
      have e:=A2d bA.out
      simp only at e
      have e2:m+d=(M6 (ps.take (k+1))).length:=by rw[e,List.length_append,HM.out,HD.out]
      have h5:=bY.out
      refine⟨⟨k+1,m+d,_,_,_,by rw[<-Y.out];omega,by go_num,rfl,e2,by omega,by rw[e];exact H4.out,A4.out⟩,by simp[intOf];omega⟩
   ·obtain rfl:k=N:=by omega
    have aU:Sl wr F 5 1 (.slice A m q) m ((M6 ps).map u8):=by
     rw[Y.out,List.take_length]at hs
     exact hs
    have aK:m=(M6 ps).length:=by
     rw[Y.out,List.take_length]at hm
     exact hm
    obtain⟨X,Z,a1,q1,rfl,aJ,aA,aB⟩:=(HP.out.step ha).row (i:=0) (by rw[<-Y.out];exact H0.out)
    rw[Nat.zero_mul,Nat.add_zero]at aA
    obtain⟨L,hL⟩:∃L,L=M6 ps:=⟨_,rfl⟩
    rw[<-hL]at aU aK
    obtain⟨I,aS⟩:∃x,x=(hdP ps).e:=⟨_,rfl⟩
    obtain⟨J,aT⟩:∃x,x=(hdP ps).c:=⟨_,rfl⟩
    have bC:ps[0]'(by rw[<-Y.out];exact H0.out)=hdP ps:=by
     have h1:ps≠[]:=λh=>by have:=H0.out;rw[Y.out,h]at this;exact absurd this (by decide)
     obtain⟨p,t,rfl⟩:=List.exists_cons_of_ne_nil h1
     rfl
    rw[bC]at aA
    have aP:wr.cell? ⟨X,Z,none⟩=some (.int .u64 (I:Int))/\wr.cell? ⟨X,Z+1,none⟩=some (.int .u64 (J:Int)):=by rw[aS,aT];exact⟨aA.1,aA.2.1⟩
    have bD:∀x∈L,x<256:=by rw[hL];exact C0y HB.out
    have hcut:∀v,Rd v 1 (.slice A m q) m (L.map u8)->Calls Tryz.prog 160 #[.int .u64 (I:Int),.int .u64 (J:Int),.slice A m q] v (B7P v I J L):=λv hv=>B7R I J _ L v (by rw[<-aK];exact hv) (by omega)
    obtain⟨E,hE⟩:∃E,E=V2 I J L.length:=⟨_,rfl⟩
    obtain⟨NN,bF⟩:∃E,E=(A2c I J L).length:=⟨_,rfl⟩
    have KA:=C6x (show wr.drew.cell? ⟨X,Z,none⟩=some (.int .u64 (I:Int))/\wr.drew.cell? ⟨X,Z+1,none⟩=some (.int .u64 (J:Int))from aP)
    have aG:=C6x (show Rd wr.drew 1 (.slice A m q) m (L.map u8)from aU.rd)
    have bT:=C6x hcut
    have cJ:=C6x aP
    have HE:=C6x hE
    have aZ:=C6x bF
    have HL:=C6x hL
    have bX:=C6x bD
    have aE:=C6x aS
    have aF:=C6x aT
    have HM:=C6x aK
    have cA:=C6x aR
    have aY:=C6x aJ
    have bR:=C6x ((ha.sub (G:=B5) (λ_ h=>h.elim)).drew)
    have cG:0<k:=H0.out
    clear hs aU hm aK aA aB hL aS aT bC bD hcut hE bF aP aJ ha hk aD aR
    go_wp2_with fail
    refine D6 (S:=(λw'=>w'.cell? ⟨X,Z,none⟩=some (.int .u64 (I:Int))/\w'.cell? ⟨X,Z+1,none⟩=some (.int .u64 (J:Int)))) (by with_reducible first|exact KB.out|exact KA.out) (λhH=>?_)
    refine C62 0 rfl ?_
    refine C62 1 rfl ?_
    refine C62 2 rfl ?_
    refine C62 3 rfl ?_
    refine C62 4 rfl ?_
    refine C62 5 rfl ?_
    refine C62 6 rfl ?_
    refine C62 7 rfl ?_
    refine C62 8 rfl ?_
    refine C6z 9 rfl (λK hK=>?_)
    go_simp
    refine(bT.out _ aG.out).mono ?_
    intro x w8 h
    obtain⟨A3,k3,rfl,p3,t3⟩:=h.opened
    rw[<-HE.out,<-aZ.out]
    have cB:=C6x p3
    have aN:=C6x t3
    have KB:=C6x (show w8.cell? ⟨X,Z,none⟩=some (.int .u64 (I:Int))/\w8.cell? ⟨X,Z+1,none⟩=some (.int .u64 (J:Int))from⟨(World.cell?_of_block (t3.block X aY.out (λh=>h))).trans KA.out.1,(World.cell?_of_block (t3.block X aY.out (λh=>h))).trans KA.out.2⟩)
    clear h p3 t3
    go_wp2_with fail
    refine C60 hK (by with_reducible first|exact KB.out|exact KA.out) ?_
    clear hK K hH
    intro hH
    try simp only[Act.put,sA,sB,sC]
    refine C62 10 rfl ?_
    refine C62 11 rfl ?_
    refine C62 12 rfl ?_
    refine C62 13 rfl ?_
    refine C62 14 rfl ?_
    refine wpAnyH_done (by kernel_rfl) ?_ _
    have aO:=bR.out.trans aN.out
    have bI:Calls Tryz.prog 161 #[.slice A3 NN k3,.slice (some ⟨X,Z,none⟩) k k0,.func (.func 162) #[] #[]] w8 (EqR w8 (A2c I J L) ps):=by
     have h1:=HP.out.step aO
     rw[Y.out]at h1
     have h:=B1N A3 (some ⟨X,Z,none⟩) k3 k0 (A2c I J L) ps w8 cB.out h1 (C0z bX.out) HB.out
     rw[<-aZ.out,<-Y.out]at h
     exact h
    have bV:=C6x bI
    have cC:=C6x (aG.out.far (λ_ _ _ h=>aN.out.block _ h (λh=>h)) aN.out.size)
    have aL:=C6x aO
    clear bI aO cG
    by_cases aI:E=0
    ·subst aI
     go_wp2_with fail
     refine bV.out.mono ?_
     rintro x w9 ⟨B,rfl,hB,t9⟩
     have aX:=C6x hB
     have aH:=C6x t9
     clear hB t9
     cases B with
     |false=>
      go_wp2_with fail
      refine bodyPost_ret (v:=.tuple #[.slice none 0 0,.int .i64 4]) (by simp[results,Tryz.results124,go_sem]) rfl (A1Y.none (λh=>?_) (aL.out.trans aH.out))
      obtain⟨_,_,h3,h4⟩:=(A4b ps).mpr h
      rw[<-aE.out,<-aF.out,<-HL.out]at h3 h4
      have e:A2c I J L=ps:=by rw[A2c,if_pos h3];exact h4
      exact absurd (aX.out.mpr e) (by decide)
     |true=>
      go_wp2_with fail
      refine bodyPost_ret (v:=.tuple #[.slice A m q,.int .i64 0]) (by simp[results,Tryz.results124,go_sem]) rfl (A1Y.some ((A4b ps).mp ?_) ?_ ?_ (aL.out.trans aH.out))
      ·have e:=aX.out.mp (by trivial)
       rw[A2c,if_pos HE.out.symm]at e
       refine⟨by rw[<-Y.out];exact H0.out,?_,?_,?_⟩
       ·rw[<-HL.out,<-HM.out];exact cA.out
       ·rw[<-aE.out,<-aF.out,<-HL.out];exact HE.out.symm
       ·rw[<-aE.out,<-aF.out,<-HL.out];exact e
      ·rw[<-HL.out];exact HM.out
      ·rw[<-HL.out];exact cC.out.far (λ_ _ _ h=>aH.out.block _ h (λh=>h)) aH.out.size
    ·have cK:(E==0)=false:=by rw[beq_eq_false_iff_ne];exact aI
     have aM:=C6x aI
     clear aI
     go_wp2_with fail
     refine bodyPost_ret (v:=.tuple #[.slice none 0 0,.int .i64 4]) (by simp[results,Tryz.results124,go_sem]) rfl (A1Y.none (λh=>aM.out ?_) aL.out)
     obtain⟨_,_,h3,_⟩:=(A4b ps).mpr h
     rw[HE.out,aE.out,aF.out,HL.out]
     exact h3
end
section
open Go.RowKit
theorem hd0{ps:List Pc}(h:0<ps.length):ps[0]=hdP ps:=by
 have I:ps≠[]:=λe=>by rw[e]at h;exact absurd h (by decide)
 obtain⟨p,t,rfl⟩:=List.exists_cons_of_ne_nil I
 rfl
end
section
open Go.ChangeShapes Go.WideShapes Go.ChangeAt Go.RowKit Go.Deep
section
variable {ta tc:TypeId} {W w w':World} {P:Nat->Pc} {ka kc:Nat} {va vc:Value} {Fa Fc:Nat->Prop} {qa qc:List (Pc×Value)}
end
end
section
open Go.RowKit Go.Maps
structure Rp where
 next:Nat
 floor:Nat
 A:Nat->Option (List Nat)
def A12(s:DS)(n:Nat)(H:Int)(r:Rp):Prop:=Y7 (scanV s n r.next)/\r.floor<=(hdP (scanV s n r.next)).e/\A7Y (M6 (scanV s n r.next))=0/\A0h (B0Q (M6 (scanV s n r.next))) H
instance (s:DS) (n:Nat) (H:Int) (r:Rp):Decidable (A12 s n H r):=by
 unfold A12
 exact inferInstance
def A4x(s:DS)(n:Nat)(r:Rp):Rp:=⟨r.next+(scanV s n r.next).length,(hdP (scanV s n r.next)).e,putA r.A (B0Q (M6 (scanV s n r.next)))⟩
def A3t(s:DS)(n:Nat)(H:Int):Nat->Rp->Rp
 |0,r=>r
 |f+1,r=>if A12 s n H r then A3t s n H f (A4x s n r)else r
theorem A5l{s:DS}{n:Nat}:∀{f c:Nat} {ps:List Pc},scan s n f c=some ps->ps=A3e s n c ps.length/\(∀i,i<ps.length->S7 s n (c+i))/\1<=ps.length/\ps.length<=f
 |0,c,ps,h=>by cases h
 |f+1,c,ps,h=>by
  unfold scan at h
  split at h
  ·rename_i I
   split at h
   ·injection h with h
    subst h
    refine⟨by simp[A3e],λi hi=>?_,by simp,by simp⟩
    have:i=0:=by simpa using hi
    subst this
    exact I
   ·rw[Option.map_eq_some_iff]at h
    obtain⟨qs,V,rfl⟩:=h
    obtain⟨J,U,h3,X⟩:=A5l V
    refine⟨?_,λi hi=>?_,by simp,by simp;omega⟩
    ·have e:A3e s n c (qs.length+1)=dec (rdP s n c)::A3e s n (c+1) qs.length:=by
      unfold A3e
      rw[List.range_succ_eq_map,List.map_cons,List.map_map]
      congr 1
      apply List.map_congr_left
      intro i _
      simp only[Function.comp_apply,Nat.succ_eq_add_one,show c+1+i=c+(i+1)by omega]
     rw[List.length_cons,e,<-J]
    ·cases i with
     |zero=>exact I
     |succ i=>
      have:=U i (by simpa using hi)
      rwa[show c+1+i=c+(i+1)by omega]at this
  ·cases h
theorem A0H{s:DS}{n c:Nat}:scanV s n c=A3e s n c (scanV s n c).length/\(∀i,i<(scanV s n c).length->S7 s n (c+i)):=by
 cases h:scan s n (n+1) c with
 |none=>
  have e:scanV s n c=[]:=by unfold scanV;rw[h];rfl
  rw[e]
  exact⟨rfl,λi hi=>absurd hi (by simp)⟩
 |some ps=>
  have e:scanV s n c=ps:=by unfold scanV;rw[h];rfl
  rw[e]
  exact⟨(A5l h).1,(A5l h).2.1⟩
theorem Y7.pos{ps:List Pc}(h:Y7 ps):1<=ps.length:=h.1
theorem B0i{s:DS}{n t u:Nat}(V:1<=n)(h:∀c,t<=c->c<u->S7 s n c):u<=t+n:=by
 rcases Nat.lt_or_ge (t+n) u with I|I
 ·have J:=(h t (Nat.le_refl _) (by omega)).2
  have U:=(h (t+n) (by omega) I).2
  have e:rdP s n (t+n)=rdP s n t:=by unfold rdP;rw[Nat.add_mod_right]
  rw[e,J]at U
  omega
 ·exact I
structure A2x (s:DS) (n:Nat) (H:Int) (r0:Rp) (k:Nat) (r:Rp):Prop where
 res:A3t s n H (n+1) r0=A3t s n H (n+1-k) r
 good:∀c,r0.next<=c->c<r.next->S7 s n c
 le:r0.next+k<=r.next
 A:AOk H.toNat r0.A->0<=H->AOk H.toNat r.A
theorem A2x.zero(s:DS)(n:Nat)(H:Int)(r:Rp):A2x s n H r 0 r:=⟨rfl,λc J I=>absurd I (by omega),Nat.le_refl _,λh _=>h⟩
theorem A2x.top{s:DS}{n:Nat}{H:Int}{I r:Rp}{k:Nat}(h:A2x s n H I k r)(J:1<=n):r.next<=I.next+n:=B0i J h.good
theorem B3H(l:List Nat):∀p∈B0Q l,∀x∈p.d,x<256:=λp I x J=>by
 unfold B0Q at I
 obtain⟨i,_,rfl⟩:=List.mem_map.mp I
 unfold C02 at J
 obtain⟨j,_,rfl⟩:=List.mem_map.mp J
 unfold B7K C4
 exact Nat.mod_lt _ (by decide)
theorem AOk.putA{M:Nat}{H:Int}:∀{ps:List Pt} {A:Nat->Option (List Nat)},AOk M A->(∀p∈ps,(0<=p.a/\p.a<H)/\p.d.length=128)->(∀p∈ps,∀x∈p.d,x<256)->H.toNat<=M->AOk M (putA A ps)
 |[],_,h,_,_,_=>h
 |p::ps,A,h,h1,h2,hM=>by
  have J:=h1 p (by simp)
  exact AOk.putA (ps:=ps) (h.set (i:=p.a.toNat) (x:=p.d) (by omega) J.2 (h2 p (by simp))) (λq I=>h1 q (by simp[I])) (λq I=>h2 q (by simp[I])) hM
theorem A2x.step{s:DS}{n:Nat}{H:Int}{J r:Rp}{k:Nat}(h:A2x s n H J k r)(hn:1<=n)(I:A12 s n H r):A2x s n H J (k+1) (A4x s n r)/\k<n:=by
 have X:=I.1.pos
 have V:∀c,J.next<=c->c<(A4x s n r).next->S7 s n c:=λc Y U=>by
  by_cases hc:c<r.next
  ·exact h.good c Y hc
  ·have:=(A0H (s:=s) (n:=n) (c:=r.next)).2 (c-r.next) (by show c-r.next<_;unfold A4x at U;simp only at U;omega)
   rwa[show r.next+(c-r.next)=c by omega]at this
 have ht:=B0i hn V
 have hl:=h.le
 have aA:(A4x s n r).next=r.next+(scanV s n r.next).length:=rfl
 have hk:k<n:=by omega
 refine⟨⟨?_,V,by omega,λZ hH=>?_⟩,hk⟩
 ·rw[h.res,show n+1-k=(n-k)+1 by omega,show n+1-(k+1)=n-k by omega]
  show(if A12 s n H r then _ else _)=_
  rw[if_pos I]
 ·exact(h.A Z hH).putA (λp X=>(I.2.2.2.row p X)) (B3H _) (Nat.le_refl _)
theorem A2x.stop{s:DS}{n:Nat}{H:Int}{I r:Rp}{k:Nat}(h:A2x s n H I k r)(J:1<=n)(U:¬A12 s n H r):A3t s n H (n+1) I=r:=by
 have V:=h.le
 have X:=h.top J
 rw[h.res,show n+1-k=(n-k)+1 by omega]
 show(if A12 s n H r then _ else _)=_
 rw[if_neg U]
theorem B6V{s:DS}{n c:Nat}(I:1<=n):(scanV s n c).length<=n:=by
 have:=B0i (s:=s) (t:=c) (u:=c+(scanV s n c).length) I (λx J U=>by
  have:=(A0H (s:=s) (n:=n) (c:=c)).2 (x-c) (by omega)
  rwa[show c+(x-c)=x by omega]at this)
 omega
theorem B1P{s:DS}{n c N:Nat}(h:SB s N)(U:1<=n)(X:n+2<=N):B8 (scanV s n c):=λp I=>by
 rw[A0H.1]at I
 unfold A3e at I
 obtain⟨i,_,rfl⟩:=List.mem_map.mp I
 intro x J
 have V:=h (2+(c+i)%n) (by have:=Nat.mod_lt (c+i) U;omega)
 unfold dec at J
 exact V x (List.mem_of_mem_drop (List.mem_of_mem_take J))
theorem B1Q{s:DS}{n c:Nat}:∀p∈scanV s n c,p.d.length<=1000:=λp I=>by
 have U:=I
 rw[A0H.1]at I
 unfold A3e at I
 obtain⟨i,hi,rfl⟩:=List.mem_map.mp I
 have J:=((A0H (s:=s) (n:=n) (c:=c)).2 i (by simpa using hi)).1
 have:=J.2.1
 unfold dec
 rw[List.length_take,List.length_drop]
 have:=J.1
 omega
end
section
open Go.RowKit Go.Maps
def LS.at_(g:LS)(r:Rp):LS:={ g with next:=r.next,A:=r.A }
def r0G(g:LS):Rp:=⟨g.next,g.h.f,g.A⟩
def ReR(w:World)(F:Nat->Prop)(d l b n N:Nat)(s:DS)(g:LS)(e:Ending)(w':World):Prop:=e= .returned (.tuple #[])/\Rs w' F d l b n N s g/\B0 (LF l b) w (LF l b) w'
def ReL(w:World)(F:Nat->Prop)(d l b n N:Nat)(s:DS)(g:LS)(t2:Value)(wr:World):Prop:=
 ∃(k:Nat) (r:Rp),t2= .int .u64 (r.floor:Int)/\A2x s n ((N-2-n:Nat):Int) (r0G g) k r/\Rs wr F d l b n N s (g.at_ r)/\B0 (LF l b) w (LF l b) wr
theorem C2o{w:World}{l b d n N:Nat}{g:LS}(h:Lg w l b d n N g):(intOf ((w.cell? ⟨l,5,none⟩).getD undef)).toNat=g.next:=by
 rw[h.cells.2.2.2.2.2.1];rfl
theorem B1R{ps:List Pc}(h:Y7 ps):A3j ps=M6 ps/\A64 ps=0:=⟨if_pos h,if_pos h⟩
theorem B9l{ps:List Pc}(h:¬Y7 ps):A64 ps=4:=if_neg h
theorem B3J{ps:List Pc}(h:B8 ps):∀x∈M6 ps,x<256:=λx I=>by
 unfold M6 at I
 obtain⟨p,J,I⟩:=List.mem_flatMap.mp I
 exact h p J x I
theorem B3K(l b d n N:Nat)(g:LS)(F:Nat->Prop)(s:DS)(w:World)(h:Rs w F d l b n N s g)(bY:SB s N)(hn:2<=n/\n+3<=N/\N<=1100)(ht:g.next<=1099511627776):
 Calls Tryz.prog 63 #[.pointer (some ⟨l,0,none⟩)] w (ReR w F d l b n N s (g.at_ (A3t s n ((N-2-n:Nat):Int) (n+1) (r0G g)))):=by
 obtain⟨R,hR⟩:∃R,R=g.at_ (A3t s n ((N-2-n:Nat):Int) (n+1) (r0G g)):=⟨_,rfl⟩
 rw[<-hR]
 have HR:=C6x hR
 have HS:=C6x h
 have bH:=C6x bY
 have J:=C6x hn
 have HT:=C6x ht
 have c4:=h.lg.cells.2.2.2.2.1
 obtain⟨fl,aP⟩:∃x,x=g.h.f:=⟨_,rfl⟩
 rw[<-aP]at c4
 have cH:=C6x aP
 clear h bY hn ht hR aP
 go_enter Tryz.func63,Tryz.ntmps63
 go_wp2_with fail
 go_loopw [2] (ReL w F d l b n N s g) (λ_ wr=>g.next+n+1-(intOf ((wr.cell? ⟨l,5,none⟩).getD undef)).toNat)
 case atStart=>exact⟨0,r0G g,by rw[cH.out];rfl,A2x.zero _ _ _ _,HS.out,B0.refl _ _⟩
 case round=>
  obtain⟨k,r,rfl,aH,aG,ha⟩:=hrel
  obtain⟨I,U,rA⟩:=r
  have bZ:=aH.top (by have:=J.out;omega)
  have bX:I<=g.next+n:=bZ
  obtain⟨ps,aA⟩:∃ps,ps=scanV s n I:=⟨_,rfl⟩
  have bB:=C6x (B3B l b d n N (g.at_ ⟨I,U,rA⟩) F s wr aG bH.out (by have:=J.out;omega) (by have:=HT.out;have:=J.out;show I<=_;omega))
  rw[show scanV s n (g.at_ ⟨I,U,rA⟩).next=ps from aA.symm]at bB
  have aU:=C6x (show B8 ps by rw[aA];exact B1P bH.out (by have:=J.out;omega) (by have:=J.out;omega))
  have cN:=C6x (show∀p∈ps,p.d.length<=1000 by rw[aA];exact B1Q)
  have aY:=C6x (show ps.length<=n by rw[aA];exact B6V (by have:=J.out;omega))
  have cO:=C6x aH
  have aB:=C6x aG
  have HA:=C6x ha
  have X:=C6x aA
  have cM:=C6x bX
  have aE:=C6x (show¬A12 s n ((N-2-n:Nat):Int) ⟨I,U,rA⟩->∀w',B0 B5 wr B5 w'->ReR w F d l b n N s R (.returned (.tuple #[])) w' fromλcT w' a=>by
   have e:=aH.stop (by have:=J.out;omega) cT
   rw[HR.out,e]
   exact⟨rfl,aG.over a,ha.trans (a.same (λ_ x=>x.elim))⟩)
  obtain⟨m,hm⟩:∃m,m=ps.length:=⟨_,rfl⟩
  have HM:=C6x hm
  clear aH aG ha aA bZ bX hm c4
  go_wp2_with fail
  refine bB.out.mono ?_
  rintro e w1 ⟨A1,k1,rfl,p1,n1,a1⟩
  have bA:=C6x p1
  have aZ:=C6x n1
  have cA:=C6x a1
  have HJ:=C6x (B6U A1 k1 ps w1 p1 aU.out (by have:=aY.out;have:=J.out;omega) cN.out)
  rw[<-HM.out]at HJ aZ bA⊢
  clear p1 n1 a1
  go_wp2_with fail
  refine HJ.out.mono ?_
  rintro e w2 ⟨A2,k2,rfl,r2,a2⟩
  have aC:=C6x (cA.out.trans a2)
  have aF:=bA.out.step a2
  have cU:=C6x aF
  by_cases Z:Y7 ps
  ·rw[(B1R Z).1]at r2⊢
   rw[(B1R Z).2]
   have h1:=Z.pos
   obtain⟨Y,o1,q1,cY,rfl,bM,bO, -⟩:=aF.row (i:=0) (by omega)
   obtain⟨V,aO⟩:∃x,x=(hdP ps).e:=⟨_,rfl⟩
   have bS:ps[0]'(by omega)=hdP ps:=by
    unfold hdP
    cases ps with
    |nil=>simp at h1
    |cons p ps=>rfl
   have aM:w2.cell? ⟨Y,o1,none⟩=some (.int .u64 (V:Int)):=by
    have:=bO.1
    rw[bS,<-aO,Nat.zero_mul,Nat.add_zero]at this
    exact this
   have cW:(1:Int)<=(m:Int):=by have:=HM.out;omega
   have cV:(0:Int)<(m:Int):=by omega
   obtain⟨D,hD⟩:∃D,D=M6 ps:=⟨_,rfl⟩
   rw[<-hD]at r2⊢
   have cQ:D.length<=8192:=by rw[hD];exact Z.2.2
   have aV:=C6x (B1M _ D w2 r2 (by rw[hD];exact B3J aU.out) (by omega))
   obtain⟨dl,bP⟩:∃x,x=D.length:=⟨_,rfl⟩
   rw[<-bP]at aV⊢
   have aX:=C6x Z
   have aK:=C6x aO
   have HD:=C6x hD
   have aT:=C6x bM
   clear r2 a2 aF Z h1 bO aO bS hD cQ bP bM
   by_cases bQ:V<U
   ·have cR:(V:Int)<(U:Int):=by omega
    have HF:=C6x (aE.out (λho=>by have:=ho.2.1;rw[<-X.out,<-aK.out]at this;simp only at this;omega) _ aC.out)
    clear bQ
    go_wp2_with fail
    go_end0
    exact HF.out
   ·have cR:(U:Int)<=(V:Int):=by omega
    have cG:=C6x (show U<=V by omega)
    have cX:((V:Int)<(U:Int))=False:=eq_false (by omega)
    clear bQ
    go_wp2_with fail
    refine aV.out.mono ?_
    rintro e w3 ⟨z,rfl,q3,a3⟩
    have aI:=C6x (aC.out.trans a3)
    have bC:=C6x (q3 (LF l b) (aB.out.over aC.out).lg.bd)
    have cB:=C6x a3
    obtain⟨B,hB⟩:∃B,B=decide (A7Y D=0):=⟨_,rfl⟩
    rw[<-hB]
    obtain⟨gl,bR⟩:∃x,x=(gP D).length:=⟨_,rfl⟩
    rw[<-bR]at bC⊢
    have HB:=C6x hB
    clear a3 q3 hB bR
    cases B with
    |false=>
     have HF:=C6x (aE.out (λho=>of_decide_eq_false HB.out.symm (by have:=ho.2.2.1;rw[<-X.out,<-HD.out]at this;exact this)) _ aI.out)
     go_wp2_with fail
     go_end0
     exact HF.out
    |true=>
     have aD:=C6x (of_decide_eq_true HB.out.symm)
     have bD:=C6x (aB.out.over aI.out)
     have aW:=C6x (A2P bD.out.lg bD.out.dk (by have:=J.out;omega) (by have:=J.out;omega))
     obtain⟨Hm,aN⟩:∃x,x=N-2-n:=⟨_,rfl⟩
     rw[<-aN]at aW
     have aL:=C6x aN
     clear aN
     go_wp2_with fail
     refine aW.out.mono ?_
     rintro e w4 ⟨rfl,k4,rfl⟩
     have cC:=C6x (aI.out.drewN k4)
     have aQ:=bC.out.step ((B0.refl B5 w3).drewN k4)
     have bK:=C6x (B0S _ gl gl (gP D) (Hm:Int) _ (w3.drewN k4) aQ)
     obtain⟨C,hC⟩:∃C,C=decide (A0h (gP D) (Hm:Int)):=⟨_,rfl⟩
     rw[<-hC]at bK
     have HC:=C6x hC
     have cK:=C6x aQ
     clear aQ hC
     go_wp2_with fail
     refine bK.out.mono ?_
     rintro e w5 ⟨rfl,a5⟩
     have aJ:=C6x (cC.out.trans a5)
     have cL:=C6x (cK.out.step a5)
     have aS:=C6x (cB.out.trans (((B0.refl B5 w3).drewN k4).trans a5))
     clear a5
     cases C with
     |false=>
      have HF:=C6x (aE.out (λho=>of_decide_eq_false HC.out.symm (by have:=ho.2.2.2;rw[<-X.out,<-HD.out,<-B3C aD.out,<-aL.out]at this;exact this)) _ aJ.out)
      go_wp2_with fail
      go_end0
      exact HF.out
     |true=>
      have bJ:=C6x (of_decide_eq_true HC.out.symm)
      have bF:=C6x (aB.out.over aJ.out)
      have bV:A12 s n ((N-2-n:Nat):Int) ⟨I,U,rA⟩:=by
       refine⟨?_,?_,?_,?_⟩
       ·simp only;rw[<-X.out];exact aX.out
       ·simp only;rw[<-X.out,<-aK.out];exact cG.out
       ·simp only;rw[<-X.out,<-HD.out];exact aD.out
       ·simp only;rw[<-X.out,<-HD.out,<-B3C aD.out,<-aL.out];exact bJ.out
      have aR:=cO.out.step (by have:=J.out;omega) bV
      have bU:A4x s n ⟨I,U,rA⟩=⟨I+m,V,putA rA (gP D)⟩:=by
       unfold A4x
       simp only
       rw[<-X.out,<-HM.out,<-aK.out,<-HD.out,B3C aD.out]
      rw[bU]at aR
      have bI:=C6x aR
      have cP:=C6x (B0Z l b d n N m (g.at_ ⟨I,U,rA⟩) _ gl gl (gP D) w5 bF.out.lg cL.out (by rw[<-aL.out];exact bJ.out) (by have:=J.out;omega) (by have:=cM.out;have:=HT.out;have:=aY.out;have:=HM.out;have:=J.out;show I+m<_;omega))
      have cF:=C6x (show w5.cell? ⟨Y,o1,none⟩=some (.int .u64 (V:Int))by rw[<-aM];exact World.cell?_of_block (aS.out.block Y aT.out (λx=>x)))
      have cE:=C6x (show Y<w5.heap.size from Nat.lt_of_lt_of_le aT.out aS.out.size)
      have cJ:=C6x (show¬LF l b Y fromλx=>by have:=aB.out.lg.bd Y x;have:=aZ.out Y rfl;omega)
      clear bV aR bU aM
      go_wp2_with fail
      refine cP.out.mono ?_
      rintro e w6 ⟨rfl,l6,a6⟩
      have aM:w6.cell? ⟨Y,o1,none⟩=some (.int .u64 (V:Int)):=by rw[<-cF.out];exact World.cell?_of_block (a6.block Y cE.out cJ.out)
      have bG:=C6x (show Rs w6 F d l b n N s (g.at_ ⟨I+m,V,putA rA (gP D)⟩)from bF.out.log a6 l6)
      have cD:=C6x (HA.out.trans ((aJ.out.same (λ_ x=>x.elim)).trans a6))
      clear l6 a6
      go_wp2_with fail
      refine⟨⟨k+1,_,rfl,bI.out.1,bG.out,cD.out⟩,?_⟩
      rw[C2o bG.out.lg,C2o aB.out.lg]
      have h1:=bI.out.1.top (by have:=J.out;omega)
      have h2:=aX.out.pos
      have h3:=HM.out
      have h4:I+m<=g.next+n:=h1
      show g.next+n+1-(I+m)<g.next+n+1-I
      omega
  ·rw[B9l Z]
   have HF:=C6x (aE.out (λho=>Z (by have:=ho.1;rw[<-X.out]at this;exact this)) _ aC.out)
   obtain⟨jl,bT⟩:∃x,x=(A3j ps).length:=⟨_,rfl⟩
   rw[<-bT]at r2⊢
   clear r2 a2 aF Z bT
   go_wp2_with fail
   go_end0
   exact HF.out
end
section
open Go.RowKit
end
section
open Go.RowKit Go.Maps
theorem B3L{l:List Nat}{h:Hd}(V:∀x∈l,x<256)(e:A1o l=some h):h.g<=1099511627775/\h.t<1099511627776/\h.f<16777216:=by
 unfold A1o at e
 split at e
 ·rename_i U
  injection e with e
  subst e
  have J:∀x∈(dec l).d,x<256:=λx I=>by
   unfold dec at I
   exact V x (List.mem_of_mem_drop (List.mem_of_mem_take I))
  have hv:=B4l U.2.2.2 J
  refine⟨?_,?_,?_⟩
  ·show(dec l).c<=_
   unfold dec
   simp only
   omega
  ·show R8 (dec l).d/16777216<_
   omega
  ·show R8 (dec l).d%16777216<_
   omega
 ·cases e
theorem A2y{s:DS}{N p:Nat}(U:SB s N):∀{k:Nat} {h:Hd},p+k<=N->U1 s p k=some h->h.g<=1099511627775/\h.t<1099511627776/\h.f<16777216
 |0,h,_,e=>by cases e
 |k+1,h,hk,e=>by
  have I:nx (U1 s p k) (unO (isS s (p+k)) k)=some h:=e
  cases ho:unO (isS s (p+k)) k with
  |none=>rw[ho]at I;exact A2y U (by omega) I
  |some h'=>
   have Y:A1o (isS s (p+k))=some h':=by
    unfold unO at ho
    rw[Option.bind_eq_some_iff]at ho
    obtain⟨x,V,J⟩:=ho
    split at J
    ·injection J with J;rw[<-J];exact V
    ·cases J
   have X:=B3L (U (p+k) (by omega)) Y
   rw[ho]at I
   unfold nx at I
   simp only at I
   split at I
   ·injection I with I;rw[<-I];exact X
   ·exact A2y U (by omega) I
def headO(s:DS):Hd:=(U1 s 0 2).getD ⟨0,0,1⟩
def A5F(s:DS)(n:Nat):LS:=⟨headO s,(headO s).t,A10 s (2+n)+1,λ_=>none,0⟩
def J4(s:DS)(n N:Nat):LS:=(A5F s n).at_ (A3t s n ((N-2-n:Nat):Int) (n+1) (r0G (A5F s n)))
theorem B1S{s:DS}{N:Nat}(I:SB s N)(J:2<=N):(headO s).g<=1099511627775/\(headO s).t<1099511627776/\(headO s).f<16777216:=by
 unfold headO
 cases h:U1 s 0 2 with
 |none=>simp
 |some x=>exact A2y I (by omega) h
def OpR(w:World)(F:Nat->Prop)(d N:Nat)(s:DS)(n:Int)(e:Ending)(w':World):Prop:=
 (¬(2<=n/\n+3<=(N:Int))/\e= .returned (.tuple #[.pointer none,.int .i64 2])/\B0 B5 w B5 w')\/
 ((2<=n/\n+3<=(N:Int))/\A10 s (2+n.toNat)=16777215/\e= .returned (.tuple #[.pointer none,.int .i64 8])/\B0 B5 w B5 w')\/
 ((2<=n/\n+3<=(N:Int))/\A10 s (2+n.toNat)<16777215/\∃l b,e= .returned (.tuple #[.pointer (some ⟨l,0,none⟩),.int .i64 0])/\Rs w' F d l b n.toNat N s (J4 s n.toNat N)/\(w.heap.size<=l/\w.heap.size<=b)/\B0 B5 w B5 w')
theorem A71(d N:Nat)(F:Nat->Prop)(s:DS)(n:Int)(w:World)(h:Dk w F d N s)(aV:SB s N)(hN:1<=N/\N<=1100)(bJ: -9223372036854775808<=n)(bK:n<9223372036854775808):
 Calls Tryz.prog 22 #[.pointer (some ⟨d,0,none⟩),.int .i64 n] w (OpR w F d N s n):=by
 have aB:=C6x (A4i d N F s w h)
 have HD:=C6x h
 have aA:=C6x aV
 have HN:=C6x hN
 have bP:((N:Int)==0)=false:=by rw[beq_eq_false_iff_ne];omega
 have bT:IntKind.i64.wrap ((N:Int)-2)=(N:Int)-2:=by rw[IntKind.wrap_i64];omega
 have bU:IntKind.i64.wrap ((N:Int)-2-1)=(N:Int)-2-1:=by rw[IntKind.wrap_i64];omega
 clear h aV hN
 by_cases I:2<=n/\n+3<=(N:Int)
 ·obtain⟨m,rfl⟩:=Int.eq_ofNat_of_zero_le (show 0<=n by omega)
  have aU:m+3<=N:=by have:=I.2;omega
  have aT:2<=m:=by have:=I.1;omega
  have bR:(2:Int)<=(m:Int):=I.1
  have bS:(m:Int)<=(N:Int)-2-1:=by omega
  have bX:IntKind.i64.wrap (2+(m:Int))=((2+m:Nat):Int):=by rw[IntKind.wrap_i64];have:=HN.out;omega
  have aO:=C6x (C1f d N (2+m) F s w HD.out aA.out (by omega) (by have:=HN.out;omega))
  have HM:=C6x (And.intro aT aU)
  have aM:=C6x I
  have aP:inR N 0 2:=λj hj=>by omega
  obtain⟨T,hT⟩:∃x,x=A10 s (2+m):=⟨_,rfl⟩
  have aQ:T<16777216:=by rw[hT];exact B4Q aA.out _ (by omega)
  rw[<-hT]at aO
  have HT:=C6x hT
  have aN:=C6x aQ
  have aX:=C6x aP
  have bI:=@run_makeMap Tryz.prog
  clear I bJ bK aU aT hT aQ aP
  go_enter Tryz.func22,Tryz.ntmps22
  go_wp2_with fail
  refine aB.out.mono ?_
  rintro e J ⟨rfl,rfl⟩
  go_wp2_with fail
  refine aB.out.mono ?_
  rintro e J ⟨rfl,rfl⟩
  go_wp2_with fail
  refine aO.out.mono ?_
  rintro e J ⟨rfl,a1⟩
  have aD:=C6x a1
  clear a1
  by_cases aR:T=16777215
  ·subst aR
   have X:=C6x (show OpR w F d N s (m:Int) (.returned (.tuple #[.pointer none,.int .i64 8])) J from .inr (.inl ⟨aM.out,HT.out.symm,rfl,aD.out⟩))
   go_wp2_with fail
   exact bodyPost_ret (v:=.tuple #[.pointer none,.int .i64 8]) (by simp[results,Tryz.results22,go_sem]) rfl X.out
  ·have bQ:((T:Int)==16777215)=false:=by rw[beq_eq_false_iff_ne];omega
   have bV:IntKind.u64.wrap ((T:Int)+1)=(T:Int)+1:=by rw[IntKind.wrap_u64];have:=aN.out;omega
   have bB:=C6x (show T<16777215 by have:=aN.out;omega)
   have aY:=C6x (B8d d N F s 0 J (HD.out.far aD.out (λ_ x _=>x)) aA.out (by have:=HN.out;omega) (by decide) (by decide))
   clear aR
   go_wp2_with fail
   refine aY.out.mono ?_
   rintro e w2 ⟨bH,a2⟩
   rcases bH with⟨_,rfl⟩|⟨bG,_⟩
   ·have aJ:=C6x (aD.out.trans a2)
    obtain⟨c,hc⟩:∃c,c=U1 s 0 2:=⟨_,rfl⟩
    rw[show((0:Int).toNat)=0 from rfl,<-hc]
    obtain⟨⟨g,t,f⟩,hh⟩:∃x,x=c.getD hZ:=⟨_,rfl⟩
    rw[<-hh]
    have HC:=C6x hc
    have HH:=C6x hh
    obtain⟨V,hV⟩:∃V,V=w2.alloc (.cells #[.int .u64 (g:Int),.int .u64 (t:Int),.int .u64 (f:Int)] 135):=⟨_,rfl⟩
    obtain⟨z,hz⟩:∃z,z=w2.heap.size:=⟨_,rfl⟩
    have HZ:=C6x (show C3 V z 135 (h3 (g:Int) (t:Int) (f:Int))by rw[hV,hz];exact C3.new _ _ _)
    have aK:=C6x (aJ.out.trans (show B0 B5 w2 B5 V by rw[hV];exact(B0.refl _ _).alloc _))
    have bD:=C6x (show w.heap.size<=z by rw[hz];exact aJ.out.size)
    have bC:=C6x hV
    have bF:=C6x hz
    clear a2 hc hh hV hz
    unfold hv
    simp only
    go_upto_region 9 with(fail)
    rw[<-bC.out,<-bF.out]
    go_upto_if 40 with(fail)
    go_cut [] (λwr=>C3 wr z 135 (h3 ((headO s).g:Int) ((headO s).t:Int) ((headO s).f:Int))/\B0 B5 w B5 wr)
    case first=>
     have aC:=HC.out
     have aG:=HH.out
     cases c with
     |none=>
      have e:headO s=⟨0,0,1⟩:=by unfold headO;rw[<-aC];rfl
      have HE:=C6x e
      clear aC aG e
      go_wp2_with (first
       |(refine Z9 Q8 rfl (.tmp 7) (.tmp 41) rfl z _ (h3 0 0 1) HZ.out rfl rfl (Z8 _ _ _) rfl rfl ?_)
       |fail)
      go_meet
      rw[HE.out]
      exact⟨HZ.out.putAll rfl,B0.lsetCells _ 0 _ aK.out (.inr bD.out)⟩
     |some x=>
      have e:headO s=⟨g,t,f⟩:=by
       unfold headO
       rw[<-aC]
       exact aG.symm
      have HE:=C6x e
      clear aC aG e
      go_wp2_with fail
      go_meet
      rw[HE.out]
      exact⟨HZ.out,aK.out⟩
    case rest=>
    obtain⟨aI,aS⟩:=hcut
    obtain⟨⟨g1,t1,f1⟩,aF⟩:∃x,x=headO s:=⟨_,rfl⟩
    rw[<-aF]at aI
    obtain⟨z0,z1,z2⟩:=aI.three
    have aW:=C6x aF
    have Z:=C6x aS
    clear aI aS aF
    go_upto_region 14 with(fail)
    obtain⟨W,hW⟩:∃W,W=(wc.alloc (.map #[] 0)).alloc (.cells #[.pointer (some ⟨d,0,none⟩),.int .i64 (m:Int),.int .u64 (g1:Int),.int .u64 (t1:Int),.int .u64 (f1:Int),.int .u64 (t1:Int),.int .u64 ((T:Int)+1),.map (some wc.heap.size),.int .i64 0] 140):=⟨_,rfl⟩
    obtain⟨l,hl⟩:∃l,l=wc.heap.size+1:=⟨_,rfl⟩
    rw[<-hW,<-hl]
    have aE:B0 B5 wc B5 W:=by rw[hW];exact((B0.refl _ _).alloc _).alloc _
    have aH:A5F s m=⟨⟨g1,t1,f1⟩,t1,T+1,λ_=>none,0⟩:=by unfold A5F;rw[<-aW.out,<-HT.out]
    have bA:=C6x (show Rs W F d l wc.heap.size m N s (A5F s m)from by
     refine⟨HD.out.far (Z.out.trans aE) (λ_ x _=>x),⟨?_,?_⟩,λj hf hj=>?_⟩
     ·have hb:=C3.new (wc.alloc (.map #[] 0)) 140 #[.pointer (some ⟨d,0,none⟩),.int .i64 (m:Int),.int .u64 (g1:Int),.int .u64 (t1:Int),.int .u64 (f1:Int),.int .u64 (t1:Int),.int .u64 ((T:Int)+1),.map (some wc.heap.size),.int .i64 0]
      rw[<-hW]at hb
      have bM:(wc.alloc (.map #[] 0)).heap.size=l:=by rw[hl];simp
      rw[bM]at hb
      rw[aH]
      exact hb
     ·rw[aH,hW]
      exact(Mp.new wc (N-2-m)).keep (Below.heap_alloc _ _ _ (by simp))
     ·have h1:=HD.out.bd j hf
      have h2:=Z.out.size
      rcases hj with e|e<;>omega)
    have U:=C6x (Z.out.trans aE)
    have aL:=C6x (show w.heap.size<=l/\w.heap.size<=wc.heap.size from⟨by have:=Z.out.size;omega,Z.out.size⟩)
    have aZ:=C6x (B3K l wc.heap.size d m N (A5F s m) F s W bA.out aA.out (by have:=HM.out;have:=HN.out;omega) (by have:=B1S aA.out (by have:=HM.out;omega);show(headO s).t<=_;omega))
    clear hW hl aE aH z0 z1 z2 bI
    go_wp2_with fail
    refine aZ.out.mono ?_
    rintro e w9 ⟨rfl,h9,Y⟩
    have X:=C6x (show OpR w F d N s (m:Int) (.returned (.tuple #[.pointer (some ⟨l,0,none⟩),.int .i64 0])) w9 by
     refine .inr (.inr ⟨aM.out,by rw[Int.toNat_natCast,<-HT.out];exact bB.out,l,wc.heap.size,rfl,by rw[Int.toNat_natCast];exact h9,aL.out,?_⟩)
     exact⟨Y.os.trans U.out.os,Y.tape.trans U.out.tape,Y.output.trans U.out.output,Nat.le_trans U.out.size Y.size,λj hj _=>(Y.block j (Nat.lt_of_lt_of_le hj U.out.size) (λx=>by have:=aL.out;rcases x with e|e<;>omega)).trans (U.out.block j hj (λx=>x)),λ_ x=>x.elim⟩)
    clear h9 Y
    go_wp2_with fail
    exact bodyPost_ret (v:=.tuple #[.pointer (some ⟨l,0,none⟩),.int .i64 0]) (by simp[results,Tryz.results22,go_sem]) rfl X.out
   ·exact absurd aX.out bG
 ·have X:=C6x (show OpR w F d N s n (.returned (.tuple #[.pointer none,.int .i64 2])) w from .inl ⟨I,rfl,B0.refl _ _⟩)
  by_cases h2:n<2
  ·clear I
   go_enter Tryz.func22,Tryz.ntmps22
   go_wp2_with fail
   refine aB.out.mono ?_
   rintro e J ⟨rfl,rfl⟩
   go_wp2_with fail
   exact bodyPost_ret (v:=.tuple #[.pointer none,.int .i64 2]) (by simp[results,Tryz.results22,go_sem]) rfl X.out
  ·have bO:2<=n:=by omega
   have h3:(N:Int)-2-1<n:=by omega
   clear I h2
   go_enter Tryz.func22,Tryz.ntmps22
   go_wp2_with fail
   refine aB.out.mono ?_
   rintro e J ⟨rfl,rfl⟩
   go_wp2_with fail
   refine aB.out.mono ?_
   rintro e J ⟨rfl,rfl⟩
   go_wp2_with fail
   exact bodyPost_ret (v:=.tuple #[.pointer none,.int .i64 2]) (by simp[results,Tryz.results22,go_sem]) rfl X.out
end
section
open Go.RowKit Go.Maps
end
section
open Go.RowKit Go.Maps
end
section
open Go.RowKit Go.Maps
theorem C2p{α:Type}(m:Nat)(f:α->List Value)(I:∀x,(f x).length=m):∀(l:List α) (i j:Nat) (hi:i<l.length),j<m->(l.flatMap f)[i * m+j]? =(f l[i])[j]?
 |x::l,0,j,_,hj=>by
  rw[List.flatMap_cons,Nat.zero_mul,Nat.zero_add,List.getElem?_append_left (by rw[I];omega)];simp
 |x::l,i+1,j,hi,hj=>by
  have e:(i+1) * m+j=m+(i * m+j):=by rw[Nat.succ_mul];omega
  rw[List.flatMap_cons,List.getElem?_append_right (by rw[I];omega),e,I,Nat.add_sub_cancel_left]
  exact C2p m f I l i j (by simpa using hi) hj
def A3L(q:Pt×Value):List Value:=[.int .i64 q.1.a,q.2]
structure QW (W:World) (P:Nat->Pt) (k:Nat) (vo:Value) (F:Nat->Prop) (qs:List (Pt×Value)) (w:World):Prop where
 len:qs.length=k
 sl:Sl w F 239 2 vo k (qs.flatMap A3L)
 at_:∀i (h:i<qs.length),qs[i].1=P i/\∃a q,qs[i].2= .slice a (P i).d.length q/\Rd w 1 (.slice a (P i).d.length q) (P i).d.length ((P i).d.map u8)/\∀g,(Value.slice a (P i).d.length q).ownBlock=some g->0<(P i).d.length->¬F g/\W.heap.size<=g
 adv:B0 B5 W F w
section
variable {W w w':World} {P:Nat->Pt} {k:Nat} {vo:Value}
theorem QW.nil(W:World)(P:Nat->Pt):QW W P 0 (.slice none 0 0) B5 [] W:=⟨rfl,Sl.nil _ _ _,λi h=>absurd h (by simp),B0.refl _ _⟩
theorem QW.step{F F':Nat->Prop}{qs:List (Pt×Value)}(h:QW W P k vo F qs w)(I:B0 B5 w F' w'):QW W P k vo F qs w':=
 ⟨h.len,h.sl.far I (λ_ h _=>h),λi hi=>by
  obtain⟨e,a,q,J,X,V⟩:=h.at_ i hi
  exact⟨e,a,q,J,X.far (λ_ _ _ U=>I.block _ U (λx=>x)) I.size,V⟩,h.adv.over I⟩
theorem QW.push1{F:Nat->Prop}{qs:List (Pt×Value)}{J:Value}{a:Option Addr}{q:Nat}{p:Pt}(h:QW W P k vo F qs w)(hp:P k=p)(Z:Rd w 1 (.slice a p.d.length q) p.d.length (p.d.map u8))(aF:∀g,(Value.slice a p.d.length q).ownBlock=some g->0<p.d.length->¬F g/\W.heap.size<=g)
 (aH:w'.ownsRow 0 239 2 J (k+1) (qs.flatMap A3L++[.int .i64 p.a,.slice a p.d.length q])) (I:w.grownBy w' vo.ownBlock) (aA:J.ownBlock=vo.ownBlock\/J.ownBlock=some w.heap.size):QW W P (k+1) J (λg=>F g\/J.ownBlock=some g) (qs++[(p,.slice a p.d.length q)]) w':=by
 obtain⟨g1,g2⟩:=A1r h.sl aH I aA (Nat.le_refl _)
 have aD:∀g,g<w.heap.size->¬F g->¬(F g\/J.ownBlock=some g):=λg aJ V aG=>by
  rcases aG with U|U
  ·exact V U
  ·rcases aA with e|e
   ·exact V (h.sl.inF g (by rw[<-e];exact U))
   ·rw[e]at U;injection U with U;omega
 have aC:∀{a:Option Addr} {d q:Nat} {l:List Nat},Rd w 1 (.slice a d q) d (l.map u8)->(∀g,(Value.slice a d q).ownBlock=some g->0<d->¬F g/\W.heap.size<=g)->Rd w' 1 (.slice a d q) d (l.map u8)/\∀g,(Value.slice a d q).ownBlock=some g->0<d->¬(F g\/J.ownBlock=some g)/\W.heap.size<=g:=λZ V=>
  ⟨Z.far (λg I X Y=>g2.block g Y (V g I X).1) g2.size,λg I X=>⟨aD g (Z.lt I X) (V g I X).1,(V g I X).2⟩⟩
 have Y:=h.len
 refine⟨by simp[Y],by simpa[A3L]using g1,λi hi=>?_,h.adv.trans g2⟩
 rw[List.length_append,List.length_singleton]at hi
 by_cases aB:i<qs.length
 ·rw[List.getElem_append_left aB]
  obtain⟨e,a',q',e2,aI,aE⟩:=h.at_ i aB
  obtain⟨k1,k2⟩:=aC aI aE
  exact⟨e,a',q',e2,k1,k2⟩
 ·obtain rfl:i=qs.length:=by omega
  rw[List.getElem_append_right (Nat.le_refl _)]
  simp only[Nat.sub_self,List.getElem_cons_zero,Y]
  rw[hp]
  obtain⟨k1,k2⟩:=aC Z aF
  exact⟨rfl,a,q,rfl,k1,k2⟩
theorem QW.push{F:Nat->Prop}{qs:List (Pt×Value)}{I:Value}{a:Option Addr}{q:Nat}{p:Pt}(h:QW W P k vo F qs w)(Y:P k=p)(Z:Rd w 1 (.slice a p.d.length q) p.d.length (p.d.map u8))(V:∀g,(Value.slice a p.d.length q).ownBlock=some g->0<p.d.length->¬F g/\W.heap.size<=g)
 (X:w'.ownsRow 0 239 2 I (k+1) (qs.flatMap A3L++[.int .i64 p.a,.slice a p.d.length q])) (U:w.grownBy w' vo.ownBlock) (J:I.ownBlock=vo.ownBlock\/I.ownBlock=some w.heap.size):∃F' aA,QW W P (k+1) I F' aA w':=
 ⟨_,_,h.push1 Y Z V X U J⟩
theorem QW.qrd{F G:Nat->Prop}{qs:List (Pt×Value)}(h:QW W P k vo F qs w)(Y:Bd G W):QRd w G vo ((List.range k).map P):=by
 have hl:=h.len
 obtain⟨A,c,rfl,aB,Z⟩:=h.sl.form0
 refine⟨A,c,by simp,by simpa using aB,Z,λhk=>?_⟩
 have aA:0<k:=by simpa using hk
 obtain⟨g,c',e,J,_⟩:=h.sl.form aA
 injection e with e1 _ _
 subst e1
 have U:∀j,W.heap.size<=j->¬G j:=λj I x=>by have:=Y j x;omega
 refine⟨g,0,rfl,⟨h.sl.bd g J,U g (by rcases h.adv.into g J with x|x;exact x.elim;exact x)⟩,λi hi=>?_⟩
 have aD:i<k:=by simpa using hi
 obtain⟨e,a,q,V,hr,hn⟩:=h.at_ i (by omega)
 have X:((List.range k).map P)[i]'hi=P i:=by simp
 rw[X]
 have H:∀j u,j<2->(A3L (qs[i]'(by omega)))[j]? =some u->w.cell? ⟨g,0+(i * 2+j),none⟩=some u:=λj u I hu=>by
  rw[Nat.zero_add,h.sl.own.cellAt (i * 2+j) (by omega),C2p 2 A3L (λ_=>rfl) qs i j (by omega) I]
  exact hu
 refine⟨a,q,H 0 _ (by decide) ?_,H 1 _ (by decide) ?_,hr,λj I aC=>U j (hn j I aC).2⟩<;>simp[A3L,e,V]
end
theorem C1w{T:TypeId}{w:World}{x:Int}{v:Value}(j:Nat)(u:Value)(h:[Value.int .i64 x,v][j]? =some u):(w.alloc (.cells #[.int .i64 x,v] T)).cell? ((⟨w.heap.size,0,none⟩:Addr).add j)=some u:=by
 rw[add_none,Nat.zero_add,(C3.new w T #[.int .i64 x,v]).cell j,List.getElem?_toArray]
 exact h
theorem C5v{x:Int}{a:Option Addr}{d q:Nat}:∀u∈[Value.int .i64 x,.slice a d q],u.oneCell'=true:=by
 intro u I
 simp at I
 rcases I with rfl|rfl<;>rfl
end
end Go.Proofs.YtbefmjiclpobjaaGreat
