import Derived.Test.YtbefmjiclpobjaaGreatMj08
namespace Go.Proofs.YtbefmjiclpobjaaGreat
set_option maxHeartbeats 6400000
set_option maxRecDepth 3000
section
open Go.RowKit Go.Maps
theorem A4M.adv{w w':World}{G V F F':Nat->Prop}{v:Value}{ps:List Pc}(h:A4M w G v ps)(I:B0 F w F' w')(hF:∀k,F k->G k)(W:∀k,V k->G k\/w.heap.size<=k):A4M w' V v ps:=by
 obtain⟨A,k,rfl,h1,h2,h3⟩:=h
 refine⟨A,k,rfl,h1,h2,λhn=>?_⟩
 obtain⟨b,o,rfl,⟨X,Y⟩,hc⟩:=h3 hn
 have hk:w'.heap[b]? =w.heap[b]? :=I.block b X (λh=>Y (hF b h))
 refine⟨b,o,rfl,⟨Nat.lt_of_lt_of_le X I.size,λh=>?_⟩,λi hi=>?_⟩
 ·rcases W b h with h|h
  ·exact Y h
  ·omega
 ·obtain⟨a,q,c0,c1,c2,c3,c4,Z,hs⟩:=hc i hi
  have e:∀j,w'.cell? ⟨b,j,none⟩=w.cell? ⟨b,j,none⟩:=λj=>World.cell?_of_block hk
  refine⟨a,q,by rw[e];exact c0,by rw[e];exact c1,by rw[e];exact c2,by rw[e];exact c3,by rw[e];exact c4,Z.far (λj J U hl=>I.block j hl (λh=>hs j J U (hF j h))) I.size,λj J U h=>?_⟩
  rcases W j h with h|h
  ·exact hs j J U h
  ·have:=Z.lt J U;omega
theorem A4M.row{w:World}{G:Nat->Prop}{A:Option Addr}{n k:Nat}{ps:List Pc}(h:A4M w G (.slice A n k) ps){i:Nat}(hi:i<ps.length):∃b o a q,A=some ⟨b,o,none⟩/\A35 w b (o+i * 5) ps[i] (.slice a ps[i].d.length q)/\Rd w 1 (.slice a ps[i].d.length q) ps[i].d.length (ps[i].d.map u8):=by
 obtain⟨b,o,a,q,I,_,J,h3⟩:=h.prd.row hi
 exact⟨b,o,a,q,I,J,h3⟩
theorem A6c{e c:Nat}{l:List Nat}(h:V2 e c l.length=0):∀p∈Q5 e c l,p.ok:=λp J=>by
 obtain⟨i,hi,rfl⟩:=List.getElem_of_mem J
 rw[Q1]at hi
 rw[A3Z e c l hi]
 unfold V2 at h
 split at h
 ·rename_i I
  refine⟨I.1,?_,?_⟩
  ·show c+i<=_
   omega
  ·show((l.drop (i * 106)).take 106).length<=106
   rw[List.length_take];omega
 ·cases h
theorem A6N{e c:Nat}{l:List Nat}(h:∀x∈l,x<256):∀p∈Q5 e c l,∀x∈p.d,x<256:=λp J x I=>by
 obtain⟨i,hi,rfl⟩:=List.getElem_of_mem J
 rw[Q1]at hi
 rw[A3Z e c l hi]at I
 exact h x (List.mem_of_mem_drop (List.mem_of_mem_take I))
structure Rs (w:World) (F:Nat->Prop) (d l b n N:Nat) (s:DS) (g:LS):Prop where
 dk:Dk w F d N s
 lg:Lg w l b d n N g
 sep:Sep F (LF l b)
def UF(F:Nat->Prop)(l b:Nat):Nat->Prop:=λk=>F k\/LF l b k
section
variable {w w':World} {F F':Nat->Prop} {d l b n N:Nat} {s s':DS} {g g':LS}
theorem Rs.bd(h:Rs w F d l b n N s g):Bd (UF F l b) w:=λk I=>by
 rcases I with I|I
 ·exact h.dk.bd k I
 ·exact h.lg.bd k I
theorem Rs.over(h:Rs w F d l b n N s g)(I:B0 B5 w F' w'):Rs w' F d l b n N s g:=
 ⟨h.dk.far I (λ_ x _=>x),h.lg.far I (λ_ x _=>x),h.sep⟩
theorem Rs.disk(h:Rs w F d l b n N s g)(I:B0 F w F' w')(k:Dk w' F' d N s'):Rs w' F' d l b n N s' g:=
 ⟨k,h.lg.far I h.sep,I.sep h.sep h.lg.bd⟩
theorem Rs.log(h:Rs w F d l b n N s g)(I:B0 (LF l b) w (LF l b) w')(k:Lg w' l b d n N g'):Rs w' F d l b n N s g':=
 ⟨h.dk.far I h.sep.symm,k,h.sep⟩
theorem A1u(J:B0 F w F' w'):B0 (UF F l b) w (UF F' l b) w':=
 ⟨J.os,J.tape,J.output,J.size,λk I U=>J.block k I (λx=>U (.inl x)),λk I=>by
  rcases I with I|I
  ·exact(J.into k I).imp .inl id
  ·exact .inl (.inr I)⟩
theorem A2Q(I:B0 (LF l b) w (LF l b) w'):B0 (UF F l b) w (UF F l b) w':=I.same (λ_ x=>.inr x)
theorem T9(I:B0 B5 w F' w'):B0 (UF F l b) w (UF F l b) w':=I.same (λ_ x=>x.elim)
end
structure GOk (n N:Nat) (s:DS) (g:LS):Prop where
 hn:2<=n/\n+3<=N/\N<=4096
 q:s.Q.length<=900000
 tn:g.h.t<=g.next
 fr:g.next-g.h.t<=n
 nx:g.next<=1099511627776
 ep:g.ep<=16777215
def N9(s:DS)(n:Nat):List Pc->DS×Int
 |[]=>(s,0)
 |p::ps=>if(L3 s ((2+p.c%n:Nat):Int) (E8 p)).2=0 then N9 (L3 s ((2+p.c%n:Nat):Int) (E8 p)).1 n ps else L3 s ((2+p.c%n:Nat):Int) (E8 p)
def A52(n:Nat)(g:LS):Nat:=n-(g.next-g.h.t)
def J6(s:DS)(n N:Nat)(g:LS)(ps:List Pt):(DS×LS)×Int:=
 if g.err=0 then
  if A0h ps ((N-2-n:Nat):Int)then
   if V2 g.ep g.next (L8 ps).length=0/\M7 ps<=A52 n g then
    if(N9 s n (Q5 g.ep g.next (L8 ps))).2=0 then(((N9 s n (Q5 g.ep g.next (L8 ps))).1,g.putAll ps (M7 ps)),0)
    else(((N9 s n (Q5 g.ep g.next (L8 ps))).1,{ g with err:=(N9 s n (Q5 g.ep g.next (L8 ps))).2 }),(N9 s n (Q5 g.ep g.next (L8 ps))).2)
   else((s,g),8)
  else((s,g),2)
 else((s,g),g.err)
def WrR(w:World)(F:Nat->Prop)(d l b n N:Nat)(r:(DS×LS)×Int)(e:Ending)(w':World):Prop:=e= .returned (.int .i64 r.2)/\∃F',Rs w' F' d l b n N r.1.1 r.1.2/\B0 (UF F l b) w (UF F' l b) w'
def WrL(W:World)(V:Nat->Prop)(d l b n N:Nat)(U:DS)(g:LS)(P:List Pc)(t:Value)(wr:World):Prop:=
 ∃(k:Nat) (I:DS) (J:Nat->Prop),k<=P.length/\t= .int .i64 (k:Int)/\N9 U n P=N9 I n (P.drop k)/\I.Q.length<=U.Q.length+k/\Rs wr J d l b n N I g/\B0 (UF V l b) W (UF J l b) wr
theorem B1a{w:World}{l b d n N:Nat}{g:LS}(h:Lg w l b d n N g):w.cell? ⟨l,6,none⟩=some (.int .u64 (g.ep:Int))/\w.cell? ⟨l,5,none⟩=some (.int .u64 (g.next:Int)):=⟨h.cells.2.2.2.2.2.2.1,h.cells.2.2.2.2.2.1⟩
theorem B6k(l b d n N:Nat)(g:LS)(F:Nat->Prop)(s:DS)(A0:Option Addr)(M k0:Nat)(ps:List Pt)(w:World)(h:Rs w F d l b n N s g)(ok:GOk n N s g)(hq:QRd w (UF F l b) (.slice A0 M k0) ps)(h8:∀p∈ps,∀x∈p.d,x<256):
 Calls Tryz.prog 149 #[.pointer (some ⟨l,0,none⟩),.slice A0 M k0] w (WrR w F d l b n N (J6 s n N g ps)):=by
 obtain⟨R,hR⟩:∃R,R=J6 s n N g ps:=⟨_,rfl⟩
 rw[<-hR]
 have HR:=C6x hR
 have HS:=C6x h
 have J:=C6x ok
 have HQ:=C6x hq
 have H8:=C6x h8
 have aZ:=C6x (A4V h.lg)
 obtain⟨E,hE⟩:∃E,E=g.err:=⟨_,rfl⟩
 rw[<-hE]at aZ
 have HE:=C6x hE
 clear h ok hq h8 hR hE
 by_cases h0:E=0
 ·subst h0
  have bV:=C6x (A2P HS.out.lg HS.out.dk J.out.hn.2.2 (by have:=J.out.hn;omega))
  obtain⟨Hm,bC⟩:∃x,x=N-2-n:=⟨_,rfl⟩
  rw[<-bC]at bV
  have aD:=C6x bC
  clear bC
  go_enter Tryz.func149,Tryz.ntmps149
  go_wp2_with fail
  refine aZ.out.mono ?_
  rintro x w1 ⟨rfl,rfl⟩
  go_wp2_with fail
  refine bV.out.mono ?_
  rintro x w1 ⟨rfl,k1,rfl⟩
  have bK:=C6x ((B0.refl B5 w).drewN k1)
  have cC:=C6x (B0S A0 M k0 ps (Hm:Int) _ (w.drewN k1) (HQ.out.step bK.out))
  obtain⟨B,hB⟩:∃B,B=decide (A0h ps (Hm:Int)):=⟨_,rfl⟩
  rw[<-hB]at cC
  have HB:=C6x hB
  clear hB
  go_wp2_with fail
  refine cC.out.mono ?_
  rintro x w2 ⟨rfl,a2⟩
  have aO:=C6x (bK.out.trans a2)
  have aQ:=C6x (HS.out.over aO.out)
  clear a2
  cases B with
  |false=>
   have I:=C6x (show WrR w F d l b n N R (.returned (.int .i64 2)) w2 by
    rw[HR.out]
    unfold J6
    rw[if_pos HE.out.symm,<-aD.out,if_neg (of_decide_eq_false HB.out.symm)]
    exact⟨rfl,F,aQ.out,T9 aO.out⟩)
   go_wp2_with fail
   go_ret
   exact I.out
  |true=>
   have HT:=C6x (of_decide_eq_true HB.out.symm)
   have dH:=C6x (show A0h ps 4096 from HT.out.mono (by have:=aD.out;have:=J.out.hn;omega))
   obtain⟨ep,aT⟩:∃x,x=g.ep:=⟨_,rfl⟩
   obtain⟨nx,aU⟩:∃x,x=g.next:=⟨_,rfl⟩
   have aS:=B1a aQ.out.lg
   rw[<-aT,<-aU]at aS
   have bP:=C6x aS
   have bQ:=C6x (show w2.drew.cell? ⟨l,6,none⟩=some (.int .u64 (ep:Int))/\w2.drew.cell? ⟨l,5,none⟩=some (.int .u64 (nx:Int))from aS)
   have cX:=C6x (show∀(w':World),B0 B5 w2.drew B5 w'->w'.cell? ⟨l,6,none⟩=some (.int .u64 (ep:Int))/\w'.cell? ⟨l,5,none⟩=some (.int .u64 (nx:Int))fromλw' a=>by
    have:=B1a (aQ.out.over (B0.of_drew a)).lg
    rw[<-aT,<-aU]at this
    exact this)
   have cW:=C6x (B7S ep nx A0 M k0 ps _ w2.drew (HQ.out.step (aO.out.drew)) dH.out H8.out)
   have bS:=C6x aT
   have bZ:=C6x aU
   obtain⟨c6,c5⟩:=aS
   clear aT aU
   go_wp2_with fail
   refine D6 (S:=(λw'=>w'.cell? ⟨l,6,none⟩=some (.int .u64 (ep:Int))/\w'.cell? ⟨l,5,none⟩=some (.int .u64 (nx:Int)))) (by with_reducible first|exact bR.out|exact bQ.out|exact bP.out) (λhH=>?_)
   refine C62 0 rfl ?_
   refine C62 1 rfl ?_
   refine C62 2 rfl ?_
   refine C62 3 rfl ?_
   refine C62 4 rfl ?_
   refine C62 5 rfl ?_
   refine C62 6 rfl ?_
   refine C62 7 rfl ?_
   refine C62 8 rfl ?_
   refine C6z 9 rfl (λK hK=>?_)
   go_simp
   refine cW.out.mono ?_
   intro x w3 h3
   obtain⟨Ap,U,kp,rfl,cJ,a3⟩:=h3
   have bR:=C6x (cX.out w3 a3)
   have cA:=C6x (cJ (UF F l b) (aQ.out.over ((B0.refl B5 w2).drew)).bd)
   have aV:=C6x (aO.out.trans (B0.of_drew a3))
   obtain⟨CE,bB⟩:∃x,x=V2 ep nx (L8 ps).length:=⟨_,rfl⟩
   rw[<-bB]
   have aC:=C6x bB
   clear cJ a3 bB
   go_wp2_with fail
   refine C60 hK (by with_reducible first|exact bR.out|exact bQ.out|exact bP.out) ?_
   clear hK K hH
   intro hH
   try simp only[Act.put,sA,sB,sC]
   refine C62 10 rfl ?_
   refine C62 11 rfl ?_
   refine C62 12 rfl ?_
   refine C62 13 rfl ?_
   refine C62 14 rfl ?_
   refine wpAnyH_done (by kernel_rfl) ?_ _
   have cB:=C6x (HS.out.over aV.out)
   have bO:=C6x (show¬(CE=0/\M7 ps<=A52 n g)->∀w',B0 B5 w B5 w'->WrR w F d l b n N R (.returned (.int .i64 8)) w' fromλk w' a=>by
    rw[HR.out]
    unfold J6
    rw[if_pos HE.out.symm,<-aD.out,if_pos HT.out,<-bS.out,<-bZ.out,<-aC.out,if_neg k]
    exact⟨rfl,F,HS.out.over a,T9 a⟩)
   clear c6 c5
   by_cases aH:CE=0
   ·subst aH
    have cH:U=M7 ps:=by
     rw[cA.out.prd.len.1,A2c,if_pos aC.out.symm,Q1];rfl
    have aX:=C6x cH
    have bT:=C6x (B8e cB.out.lg (by have:=J.out.hn;omega) J.out.tn J.out.fr)
    obtain⟨fr,bG⟩:∃x,x=A52 n g:=⟨_,rfl⟩
    rw[show n-(g.next-g.h.t)=fr by rw[bG];rfl]at bT
    have aW:=C6x bG
    clear cH bG
    go_wp2_with fail
    refine bT.out.mono ?_
    rintro x w4 ⟨rfl,k4,rfl⟩
    have aP:=C6x (aV.out.drewN k4)
    by_cases dL:(fr:Int)<(U:Int)
    ·have I:=C6x (bO.out (λk=>by have:=k.2;rw[<-aW.out,<-aX.out]at this;omega) _ aP.out)
     go_wp2_with fail
     go_ret
     exact I.out
    ·have dM:(U:Int)<=(fr:Int):=by omega
     clear dL
     obtain⟨P,hP⟩:∃P,P=Q5 ep nx (L8 ps):=⟨_,rfl⟩
     have bI:A4M (w3.drewN k4) (UF F l b) (.slice Ap U kp) P:=by
      have:=cA.out.adv ((B0.refl B5 w3).drewN k4) (λ_ x=>x.elim) (λ_ x=>.inl x)
      rw[A2c,if_pos aC.out.symm]at this
      rw[hP];exact this
     have dB:=C6x bI
     have cD:U=P.length:=bI.prd.len.1
     have aE:=C6x cD
     have dD:=C6x (show∀p∈P,p.ok by rw[hP];exact A6c aC.out.symm)
     have dC:=C6x (show∀p∈P,∀x∈p.d,x<256 by rw[hP];exact A6N (B4s ps))
     have dP:(U:Int)<=4096:=by have:=J.out.hn;have:=aW.out;unfold A52 at this;omega
     have bU:=C6x (show J6 s n N g ps=(if(N9 s n P).2=0 then(((N9 s n P).1,g.putAll ps (M7 ps)),0)else(((N9 s n P).1,{ g with err:=(N9 s n P).2 }),(N9 s n P).2))by
      unfold J6
      rw[if_pos HE.out.symm,<-aD.out,if_pos HT.out,<-bS.out,<-bZ.out,if_pos ⟨aC.out.symm,by rw[<-aW.out,<-aX.out];omega⟩,hP])
     have dO:((fr:Int)<(U:Int))=False:=eq_false (by omega)
     clear bI cD hP dM
     go_wp2_with fail
     go_loopw [45] (WrL (w3.drewN k4) F d l b n N s g P) (λt _=>U-(intOf t).toNat)
     case atStart=>exact⟨0,s,F,Nat.zero_le _,rfl,by rw[List.drop_zero],Nat.le_refl _,cB.out.over ((B0.refl B5 w3).drewN k4),B0.refl _ _⟩
     case round=>
      obtain⟨k,sk,Fk,hk,rfl,aB,cP,aL,Y⟩:=hrel
      by_cases aK:k<U
      ·have dN:(k:Int)<(U:Int):=by omega
       have aI:k<P.length:=by rw[<-aE.out];exact aK
       obtain⟨b5,o5,a5,q5,rfl,bA,bJ⟩:=(dB.out.adv Y (λ_ x=>x) (λ_ x=>Y.into _ x)).row aI
       have bH:=dD.out _ (List.getElem_mem aI)
       have bD:=dC.out _ (List.getElem_mem aI)
       have bF:P.drop k=P[k]::P.drop (k+1):=(List.getElem_cons_drop aI).symm
       obtain⟨p,hp⟩:∃p,p=P[k]:=⟨_,rfl⟩
       rw[<-hp]at bA bJ bH bD bF
       clear hp
       rw[bF]at aB
       obtain⟨W,aR⟩:∃x,x=L3 sk ((2+p.c%n:Nat):Int) (E8 p):=⟨_,rfl⟩
       have aJ:N9 s n P=if W.2=0 then N9 W.1 n (P.drop (k+1))else W:=by rw[aB,aR];rfl
       have cQ:W.1.Q.length<=s.Q.length+(k+1):=by rw[aR];exact Nat.le_trans (A4T sk _ _) (by omega)
       obtain⟨V,hV⟩:∃V,V=wr.alloc (.cells #[.int .u64 (p.e:Int),.int .u64 (p.c:Int),.bool p.f,.bool p.g,.slice a5 p.d.length q5] 201):=⟨_,rfl⟩
       obtain⟨z,hz⟩:∃z,z=wr.heap.size:=⟨_,rfl⟩
       have aG:B0 B5 wr B5 V:=by rw[hV];exact(B0.refl _ _).alloc _
       have Z:C3 V z 201 #[.int .u64 (p.e:Int),.int .u64 (p.c:Int),.bool p.f,.bool p.g,.slice a5 p.d.length q5]:=by rw[hV,hz];exact C3.new _ _ _
       have aM:=aL.over aG
       have cG:Calls Tryz.prog 188 #[.pointer (some ⟨l,0,none⟩),.agg #[.int .u64 (p.e:Int),.int .u64 (p.c:Int),.bool p.f,.bool p.g,.slice a5 p.d.length q5]] V (C4n V Fk d N W):=by
        rw[aR]
        exact C0A l b d n N g Fk sk p a5 q5 V aM.lg aM.dk aM.sep bH (bJ.far (λ_ _ _ h=>aG.block _ h (λh=>h)) aG.size) bD (by have:=J.out.q;have:=aE.out;omega) (by have:=J.out.hn;omega)
       have bX:=C6x aJ
       have dE:=C6x cQ
       have HV:=C6x hV
       have HZ:=C6x hz
       have aA:=C6x cG
       have dG:=C6x aM
       have cU:=C6x (Y.trans (T9 (F:=Fk) (l:=l) (b:=b) aG))
       have cV:=C6x bA
       have dA:=C6x aK
       obtain⟨pe,cL⟩:∃x,x=p.e:=⟨_,rfl⟩
       obtain⟨pc,cK⟩:∃x,x=p.c:=⟨_,rfl⟩
       obtain⟨pf,cM⟩:∃x,x=p.f:=⟨_,rfl⟩
       obtain⟨pg,cN⟩:∃x,x=p.g:=⟨_,rfl⟩
       obtain⟨pm,cO⟩:∃x,x=p.d.length:=⟨_,rfl⟩
       obtain⟨i0,i1,i2,i3,i4⟩:=bA
       obtain⟨WE,cE⟩:∃x,x=W.2:=⟨_,rfl⟩
       rw[<-cL]at i0 Z HV aA
       rw[<-cK]at i1 Z HV aA
       rw[<-cM]at i2 Z HV aA
       rw[<-cN]at i3 Z HV aA
       rw[<-cO]at i4 Z HV aA
       have aF:=C6x cE
       have dK:=C6x Z
       clear hk aB cP aL Y aK aI bJ bH bD bF aJ cQ hV hz aG Z aM cG cL cK cM cN cO cE aR cV
       go_upto_region 12 with(fail)
       rw[<-HV.out,<-HZ.out]
       clear i0 i1 i2 i3 i4
       obtain⟨z0,z1,z2,z3,z4⟩:=B3f dK.out
       go_wp2_with fail
       refine aA.out.mono ?_
       rintro x w6 ⟨rfl,F6,k6,a6⟩
       rw[<-aF.out]
       have aY:=C6x (dG.out.disk a6 k6)
       have bM:=C6x (cU.out.trans (A1u (l:=l) (b:=b) a6))
       clear a6 k6 z0 z1 z2 z3 z4
       by_cases aN:WE=0
       ·subst aN
        go_wp2_with fail
        have aK:=dA.out
        refine⟨⟨k+1,W.1,F6,by have:=aE.out;omega,by go_num,?_,dE.out,aY.out,bM.out⟩,by simp[intOf]<;>omega⟩
        rw[bX.out,if_pos aF.out.symm]
       ·have hb:((WE:Int)!=0)=true:=by rw[bne_iff_ne];exact aN
        have cF:((WE:Int)==0)=false:=by rw[beq_eq_false_iff_ne];exact aN
        have cY:=C6x (A4m WE aY.out.lg)
        have bY:=C6x aN
        clear aN
        go_wp2_with fail
        refine cY.out.mono ?_
        rintro x w7 ⟨rfl,l7,X⟩
        have I:=C6x (show WrR w F d l b n N R (.returned (.int .i64 WE)) w7 by
         have e1:N9 s n P=W:=by rw[bX.out,if_neg (by rw[<-aF.out];exact bY.out)]
         rw[HR.out,bU.out,e1,if_neg (by rw[<-aF.out];exact bY.out),<-aF.out]
         exact⟨rfl,F6,aY.out.log X l7,(T9 (aP.out)).trans (bM.out.trans (A2Q X))⟩)
        clear l7 X
        go_wp2_with fail
        go_ret
        exact I.out
      ·obtain rfl:k=U:=by have:=aE.out;omega
       have e0:P.drop k=[]:=List.drop_eq_nil_of_le (by have:=aE.out;omega)
       rw[e0]at aB
       have aJ:N9 s n P=(sk,0):=aB
       have cZ:=C6x aJ
       have dF:=C6x aL
       have cT:=C6x Y
       have cR:=B0Z l b d n N k g A0 M k0 ps wr aL.lg ((HQ.out.step aP.out).adv Y (λ_ x=>x) (λj x=>.inl (.inr x))) (by rw[<-aD.out];exact HT.out) J.out.hn.2.2 (by have:=J.out.nx;omega)
       have dJ:=C6x cR
       clear hk aB e0 aJ cP aL Y aK cR
       go_wp2_with fail
       refine dJ.out.mono ?_
       rintro x w7 ⟨rfl,l7,X⟩
       have I:=C6x (show WrR w F d l b n N R (.returned (.int .i64 0)) w7 by
        rw[HR.out,bU.out,cZ.out,if_pos rfl,<-aX.out]
        exact⟨rfl,Fk,dF.out.log X l7,(T9 (aP.out)).trans (cT.out.trans (A2Q X))⟩)
       clear l7 X
       go_wp2_with fail
       go_ret
       exact I.out
   ·have hb:((CE:Int)!=0)=true:=by rw[bne_iff_ne];exact aH
    have cF:((CE:Int)==0)=false:=by rw[beq_eq_false_iff_ne];exact aH
    have I:=C6x (bO.out (λk=>aH k.1) _ aV.out)
    clear aH
    go_wp2_with fail
    go_ret
    exact I.out
 ·have hb:((E:Int)!=0)=true:=by rw[bne_iff_ne];exact h0
  have cF:((E:Int)==0)=false:=by rw[beq_eq_false_iff_ne];exact h0
  have I:=C6x (show WrR w F d l b n N R (.returned (.int .i64 E)) w by
   rw[HR.out]
   unfold J6
   rw[if_neg (by rw[<-HE.out];exact h0),<-HE.out]
   exact⟨rfl,F,HS.out,B0.refl _ _⟩)
  clear h0
  go_enter Tryz.func149,Tryz.ntmps149
  go_wp2_with fail
  refine aZ.out.mono ?_
  rintro x w1 ⟨rfl,rfl⟩
  go_wp2_with fail
  go_ret
  exact I.out
def Q4(s:DS)(g:LS):(DS×LS)×Int:=if g.err=0 then(((E0 s).1,{ g with err:=(E0 s).2 }),(E0 s).2)else((s,g),g.err)
theorem B8f(l b d n N:Nat)(g:LS)(F:Nat->Prop)(s:DS)(w:World)(h:Rs w F d l b n N s g):
 Calls Tryz.prog 107 #[.pointer (some ⟨l,0,none⟩)] w (WrR w F d l b n N (Q4 s g)):=by
 obtain⟨R,hR⟩:∃R,R=Q4 s g:=⟨_,rfl⟩
 rw[<-hR]
 have Y:=C6x (A4V h.lg)
 have W:=C6x h
 have HR:=C6x hR
 obtain⟨E,hE⟩:∃E,E=g.err:=⟨_,rfl⟩
 rw[<-hE]at Y
 have J:=C6x hE
 have c0:=h.lg.cells.1
 clear h hR hE
 by_cases I:E=0
 ·subst I
  obtain⟨X,hX⟩:∃x,x=E0 s:=⟨_,rfl⟩
  have V:=C6x (A4h d N F s w W.out.dk)
  rw[<-hX]at V
  have HX:=C6x hX
  obtain⟨XE,aA⟩:∃x,x=X.2:=⟨_,rfl⟩
  rw[<-aA]at V
  have aE:=C6x aA
  clear hX aA
  go_enter Tryz.func107,Tryz.ntmps107
  go_wp2_with fail
  refine Y.out.mono ?_
  rintro x w1 ⟨rfl,rfl⟩
  go_wp2_with fail
  refine V.out.mono ?_
  rintro x w2 ⟨rfl,k2,Z⟩
  have aB:=C6x (W.out.disk Z k2)
  have aD:=C6x (A4m XE aB.out.lg)
  have aC:=C6x (A1u (l:=l) (b:=b) Z)
  clear Z k2 c0
  go_wp2_with fail
  refine aD.out.mono ?_
  rintro x w3 ⟨rfl,l3,a3⟩
  have U:=C6x (show WrR w F d l b n N R (.returned (.int .i64 XE)) w3 by
   rw[HR.out]
   unfold Q4
   rw[if_pos J.out.symm,<-HX.out,<-aE.out]
   exact⟨rfl,F,aB.out.log a3 l3,aC.out.trans (A2Q a3)⟩)
  clear l3 a3
  go_wp2_with fail
  go_ret
  exact U.out
 ·have hb:((E:Int)!=0)=true:=by rw[bne_iff_ne];exact I
  have aF:((E:Int)==0)=false:=by rw[beq_eq_false_iff_ne];exact I
  have U:=C6x (show WrR w F d l b n N R (.returned (.int .i64 E)) w by
   rw[HR.out]
   unfold Q4
   rw[if_neg (by rw[<-J.out];exact I),<-J.out]
   exact⟨rfl,F,W.out,B0.refl _ _⟩)
  clear I
  go_enter Tryz.func107,Tryz.ntmps107
  go_wp2_with fail
  refine Y.out.mono ?_
  rintro x w1 ⟨rfl,rfl⟩
  go_wp2_with fail
  go_ret
  exact U.out
end
section
open Go.RowKit Go.Maps
def D8(s:DS)(n:Nat)(g:LS)(i:Nat):List Nat:=(g.A i).getD (isS s (2+n+i))
def AOk(M:Nat)(A:Nat->Option (List Nat)):Prop:=∀i x,A i=some x->i<M/\x.length=128/\∀y∈x,y<256
theorem AOk.none(M:Nat):AOk M (λ_=>none):=λ_ _ h=>by cases h
theorem AOk.set{M i:Nat}{A:Nat->Option (List Nat)}{x:List Nat}(h:AOk M A)(hi:i<M)(U:x.length=128)(J:∀y∈x,y<256):AOk M (Q9 A i x):=λj y I=>by
 unfold Q9 at I
 split at I
 ·injection I with I;subst I;rename_i e;rw[e];exact⟨hi,U,J⟩
 ·exact h j y I
theorem B8g{ops:Array Oper}{rest:List Oper}{o:Oper}{a:Act}{w:World}{Q:Exit->Act->World->Prop}(W:o.guard=none)(m x:Operand)(Z:o.op=Op.lookup 138 m x true)(b N i:Nat)(A:Nat->Option (List Nat))(J:Mp w b N A)(Y:a.eval m= .map (some b))(hx:a.eval x= .int .i64 (i:Int))(hi:i<N)(U:N<=4096)
 {X:List Nat} {B:Bool} (V:X=(A i).getD (List.replicate 128 0)) (I:B=(A i).isSome)
 (hK:wpList Tryz.prog ops Q rest (a.put o.dst (.tuple #[.agg ((X.map u8).toArray),.bool B])) w):wpList Tryz.prog ops Q (o::rest) a w:=by
 subst V I
 exact C09 W m x Z b N i A J Y hx hi U hK
def RdR(w:World)(X:List Nat)(e:Ending)(w':World):Prop:=∃z,e= .returned (.tuple #[.slice (some ⟨z,0,none⟩) 128 128,.int .i64 0])/\w.heap.size<=z/\z<w'.heap.size/\Rd w' 1 (.slice (some ⟨z,0,none⟩) 128 128) 128 (X.map u8)/\X.length=128/\B0 B5 w B5 w'
theorem C3.rdS8{w:World}{z:Nat}{t:TypeId}{X:List Nat}(h:C3 w z t (X.map u8).toArray)(I:X.length=128):Rd w 1 (.slice (some ⟨z,0,none⟩) 128 128) 128 (X.map u8):=
 ⟨_,128,rfl,Nat.le_refl _,by unfold maxLen;omega,by simpa using I,λe=>(by cases e),λ_=>⟨_,rfl,h.lt,λj u J=>by
  have e:(⟨z,0,none⟩:Addr).add j=⟨z,j,none⟩:=by rw[add_none,Nat.zero_add]
  rw[e,h.cell]
  simpa using J⟩⟩
theorem B1c(l b d n N i:Nat)(g:LS)(F:Nat->Prop)(s:DS)(w:World)(h:Rs w F d l b n N s g)(hn:2<=n/\n+3<=N/\N<=4096)(hA:AOk (N-2-n) g.A)(hi:i<N-2-n):
 Calls Tryz.prog 23 #[.pointer (some ⟨l,0,none⟩),.int .i64 (i:Int)] w (RdR w (D8 s n g i)):=by
 have aT:=C6x (A4l h.lg)
 have aL:=C6x (A2P h.lg h.dk hn.2.2 (by omega))
 obtain⟨Y,aF⟩:∃x,x=N-2-n:=⟨_,rfl⟩
 rw[<-aF]at aL hA hi
 have aY:(i:Int)<(Y:Int):=by omega
 have aX:(0:Int)<=(i:Int):=by omega
 obtain⟨X,hX⟩:∃X,X=(g.A i).getD (List.replicate 128 0):=⟨_,rfl⟩
 obtain⟨B,hB⟩:∃B,B=(g.A i).isSome:=⟨_,rfl⟩
 have aQ:X.length=128:=by
  rw[hX]
  cases e:g.A i with
  |none=>simp
  |some x=>exact(hA i x e).2.1
 have aE:=C6x aQ
 have HX:=C6x hX
 have HB:=C6x hB
 have HS:=C6x h
 have HI:=C6x hi
 have aD:=C6x aF
 have HN:=C6x hn
 have c7:=h.lg.cells.2.2.2.2.2.2.2.1
 have c0:=h.lg.cells.1
 clear h hn hA hi aF hX hB aQ
 go_enter Tryz.func23,Tryz.ntmps23
 go_wp2_with fail
 refine aT.out.mono ?_
 rintro x I ⟨rfl,rfl⟩
 go_wp2_with fail
 refine aL.out.mono ?_
 rintro x I ⟨rfl,k1,rfl⟩
 obtain⟨I,aJ⟩:∃W,W=w.drewN k1:=⟨_,rfl⟩
 rw[<-aJ]
 have aG:B0 B5 w B5 I:=by rw[aJ];exact(B0.refl B5 w).drewN k1
 have U:=C6x (HS.out.over aG)
 have aK:=C6x aG
 have aW:=U.out.lg.cells.2.2.2.2.2.2.2.1
 have aV:=U.out.lg.cells.1
 have aU:=C6x (show Mp I b Y g.A by rw[aD.out];exact U.out.lg.mp)
 have aN:=C6x (show Y<=4096 by have:=aD.out;have:=HN.out;omega)
 clear aG c7 c0 aJ
 go_upto_region 6 with(first
  |(refine B8g rfl _ _ rfl b Y i g.A aU.out rfl rfl HI.out aN.out HX.out HB.out ?_)
  |(refine A4j rfl rfl ?_)
  |(refine A4k rfl _ _ rfl _ rfl X aE.out rfl rfl ?_)
  |fail)
 obtain⟨z,hz⟩:∃z,z=I.heap.size:=⟨_,rfl⟩
 obtain⟨V,hV⟩:∃V,V=I.alloc (.cells (X.map u8).toArray 141):=⟨_,rfl⟩
 rw[<-hV,<-hz]
 have aH:B0 B5 I B5 V:=by rw[hV];exact(B0.refl _ _).alloc _
 have aP:=C6x (show C3 V z 141 (X.map u8).toArray by rw[hV,hz];exact C3.new _ _ _)
 have J:=C6x (U.out.over aH)
 have aA:=C6x (aK.out.trans aH)
 have HZ:=C6x (show w.heap.size<=z by rw[hz];exact aK.out.size)
 clear hV hz aH aW aV
 cases B with
 |true=>
  have HF:=C6x (show RdR w (D8 s n g i) (.returned (.tuple #[.slice (some ⟨z,0,none⟩) 128 128,.int .i64 0])) V by
   have e:D8 s n g i=X:=by
    rw[HX.out]
    unfold D8
    obtain⟨x,hx⟩:=Option.isSome_iff_exists.1 HB.out.symm
    rw[hx];rfl
   rw[e]
   exact⟨z,rfl,HZ.out,aP.out.lt,aP.out.rdS8 aE.out,aE.out,aA.out⟩)
  go_wp2_with fail
  exact bodyPost_ret (v:=.tuple #[.slice (some ⟨z,0,none⟩) 128 128,.int .i64 0]) (by simp[results,Tryz.results23,go_sem]) rfl HF.out
 |false=>
  have c0:=J.out.lg.cells.1
  have HC:=C6x c0
  have aC:=C6x (show V.drew.cell? ⟨l,0,none⟩=some (.pointer (some ⟨d,0,none⟩))from c0)
  have aM:=C6x (B0X (w:=V.drew) i (show Lg V.drew l b d n N g from⟨J.out.lg.blk,J.out.lg.mp⟩) (by have:=HI.out;have:=aN.out;omega) (by have:=HN.out;omega))
  have aO:=C6x (A6a d N F s (2+n+i) V.drew (J.out.dk.far ((B0.refl B5 V).drew) (λ_ x _=>x)) (by have:=HI.out;have:=aD.out;omega))
  have aS:=C6x (show∀w',B0 B5 V.drew B5 w'->w'.cell? ⟨l,0,none⟩=some (.pointer (some ⟨d,0,none⟩))fromλw' a=>(J.out.over (B0.of_drew a)).lg.cells.1)
  obtain⟨hm,aI⟩:∃x,x=2+n+i:=⟨_,rfl⟩
  rw[<-aI]at aM aO
  have aR:=C6x aI
  clear aI
  go_wp2_with fail
  refine D6 (S:=(λw'=>w'.cell? ⟨l,0,none⟩=some (.pointer (some ⟨d,0,none⟩)))) (by with_reducible first|exact aB.out|exact aC.out|exact HC.out) (λhH=>?_)
  refine C6y 0 rfl ?_
  refine C6y 1 rfl ?_
  refine C6y 2 rfl ?_
  refine C6y 3 rfl ?_
  refine C6y 4 rfl ?_
  refine C6y 5 rfl ?_
  refine C6z 6 rfl (λK hK=>?_)
  go_simp
  refine aM.out.mono ?_
  rintro x w6 ⟨rfl,rfl⟩
  go_wp2_with fail
  refine C60 hK (by with_reducible first|exact aB.out|exact aC.out|exact HC.out) ?_
  clear hK K hH
  intro hH
  try simp only[Act.put,sA,sB,sC]
  refine C6z 7 rfl (λK hK=>?_)
  go_simp
  refine aO.out.mono ?_
  rintro x w7 ⟨y,rfl,b7,l7,Z⟩
  have aB:=C6x (aS.out w7 (Z.sub (G:=B5) (λ_ x=>x.elim)))
  have HF:=C6x (show RdR w (D8 s n g i) (.returned (.tuple #[.slice (some ⟨y,0,none⟩) 128 128,.int .i64 0])) w7 by
   have e:D8 s n g i=isS s hm:=by
    unfold D8
    have:g.A i=none:=by
     cases h:g.A i with
     |none=>rfl
     |some x=>have:=HB.out;rw[h]at this;cases this
    rw[this,aR.out];rfl
   rw[e]
   exact⟨y,rfl,Nat.le_trans aA.out.size (by rcases Z.into y rfl with h|h;exact h.elim;exact h),b7.lt,b7.rdS8 l7,l7,aA.out.trans (B0.of_drew (Z.sub (G:=B5) (λ_ x=>x.elim)))⟩)
  clear b7 l7 Z
  go_wp2_with fail
  refine C60 hK (by with_reducible first|exact aB.out|exact aC.out|exact HC.out) ?_
  clear hK K hH
  intro hH
  try simp only[Act.put,sA,sB,sC]
  refine C6y 8 rfl ?_
  refine C6y 9 rfl ?_
  refine C6y 10 rfl ?_
  refine C6y 11 rfl ?_
  refine wpAnyH_done (by kernel_rfl) ?_ _
  go_wp2_with fail
  exact bodyPost_ret (v:=.tuple #[.slice (some ⟨y,0,none⟩) 128 128,.int .i64 0]) (by simp[results,Tryz.results23,go_sem]) rfl HF.out
end
section
open Go.RowKit Go.Maps
theorem A0A:(Tryz.prog.info? 173).map (λi=>(i.zero,i.size,i.bytes))=some (some (.agg zS),128,128):=by kernel_rfl
theorem V3:(Tryz.prog.info? 173).map (·.size)=some 128:=by kernel_rfl
section
variable {ops:Array Oper} {rest:List Oper} {o:Oper} {a:Act} {w:World} {Q:Exit->Act->World->Prop}
theorem B8h(J:o.guard=none)(m x:Operand)(V:o.op=Op.lookup 86 m x true)(b N i:Nat)(A:Nat->Option (List Nat))(I:Mp w b N A)(U:a.eval m= .map (some b))(W:a.eval x= .int .i64 (i:Int))(hi:i<N)(X:N<=4096)
 (hK:wpList Tryz.prog ops Q rest (a.put o.dst (.tuple #[.agg ((((A i).getD (List.replicate 128 0)).map u8).toArray),.bool (A i).isSome])) w):wpList Tryz.prog ops Q (o::rest) a w:=by
 obtain⟨D,h,d⟩:=I
 refine wpList_lookup_own_ok w J m x 86 V 3 173 N7 Tryz.underlying86 A0w (A2g A0A) (A09 (List.replicate 128 0)) [] (by rw[zS,<-List.map_replicate];exact A1H _) b _ D U h _ (ik i) W (A37 (by omega)) (λv ps hv=>?_)
 rw[d.at_ i hi]at hv
 rw[d.has i hi]
 have e:((A i).map A09).getD (A09 (List.replicate 128 0))=A09 ((A i).getD (List.replicate 128 0)):=by cases A i<;>rfl
 rw[e]at hv
 rw[A2m hv]
 exact hK
theorem A99(aA:o.guard=none)(m x v:Operand)(ho:o.op=Op.mapUpdate 86 m x v)(b N i:Nat)(A:Nat->Option (List Nat))(l:List Nat)(Y:Mp w b N A)(hm:a.eval m= .map (some b))(hx:a.eval x= .int .i64 (i:Int))(hv:a.eval v= .agg (l.map u8).toArray)(hi:i<N)(hN:N<=4096)
 (hK:∀w',Mp w' b N (Q9 A i l)->w.grownBy w' (some b)->wpList Tryz.prog ops Q rest (a.put o.dst undef) w'):wpList Tryz.prog ops Q (o::rest) a w:=by
 obtain⟨D,h,d⟩:=Y
 refine wpList_mapUpdate_own w aA m x v 86 ho 3 173 N7 Tryz.underlying86 A0w b _ D hm h (by have:=A6L A N;unfold maxLen;omega) _ _ (ik i) hx hv (A37 (by omega)) (A09 l) [] (A1H l) (λw' V Z=>?_)
 refine hK w' ⟨_,?_,d.put hi⟩ Z
 obtain⟨U,c,W,X,h3,J⟩:=V
 refine⟨U,c,W,X,?_,J⟩
 have I:=(d.put (l:=l) hi).size
 rw[J]at I
 rw[<-I]
 simp[Maps.size,length_sorted]
theorem B6l(I:o.guard=none)(J:o.op= .alloc 173)(h:wpList Tryz.prog ops Q rest (a.put o.dst (.pointer (some ⟨w.heap.size,0,none⟩))) (w.alloc (.cells zS 173))):wpList Tryz.prog ops Q (o::rest) a w:=
 A4g I J A0A h
theorem B6m(J:o.guard=none)(x y:Operand)(V:o.op= .store 173 x y)(g:Nat)(I:g=w.heap.size)(l:List Nat)(U:l.length=128)(W:a.eval x= .pointer (some ⟨g,0,none⟩))(X:a.eval y= .agg (l.map u8).toArray)
 (h:wpList Tryz.prog ops Q rest (a.put o.dst undef) (w.alloc (.cells (l.map u8).toArray 173))):wpList Tryz.prog ops Q (o::rest) a (w.alloc (.cells zS 173)):=
 A0v J x y V g I W X V3 (by simpa using U) A0S (A2i l) h
theorem B1d(U:o.guard=none)(x:Operand)(W:o.op= .load 173 x)(b I:Nat)(l:List Nat)(V:l.length=128)(J:w.rangeAt b I (l.map u8))(X:a.eval x= .pointer (some ⟨b,I,none⟩))
 (h:wpList Tryz.prog ops Q rest (a.put o.dst (.agg (l.map u8).toArray)) w):wpList Tryz.prog ops Q (o::rest) a w:=
 wpList_load_mid U 173 x W b I X (l.map u8) _ J Tryz.underlying173 rfl (by rw[V3,List.length_map,V]) h
theorem B43(I:o.guard=none)(x:Operand)(J:o.op= .sliceToArrayPointer 173 x)(A:Option Addr)(c:Nat)(U:a.eval x= .slice A 128 c)
 (h:wpList Tryz.prog ops Q rest (a.put o.dst (.pointer A)) w):wpList Tryz.prog ops Q (o::rest) a w:=by
 refine wpList_plain I λK hK=>?_
 unfold Oper.wp execOp
 simp[J,U,Instr.arrayAt,run_underlying Tryz.underlying173,Result.andThen]
 exact hK _ _ h
end
theorem B6n{ops:Array Oper}{rest:List Oper}{o:Oper}{a:Act}{w:World}{Q:Exit->Act->World->Prop}(W:o.guard=none)(m x:Operand)(Z:o.op=Op.lookup 86 m x true)(b N i:Nat)(A:Nat->Option (List Nat))(J:Mp w b N A)(Y:a.eval m= .map (some b))(hx:a.eval x= .int .i64 (i:Int))(hi:i<N)(U:N<=4096)
 {X:List Nat} {B:Bool} (V:X=(A i).getD (List.replicate 128 0)) (I:B=(A i).isSome)
 (hK:wpList Tryz.prog ops Q rest (a.put o.dst (.tuple #[.agg ((X.map u8).toArray),.bool B])) w):wpList Tryz.prog ops Q (o::rest) a w:=by
 subst V I
 exact B8h W m x Z b N i A J Y hx hi U hK
def vwH(A:Nat->Option (List Nat))(L:Nat->List Nat):Nat->List Nat:=λi=>(A i).getD (L i)
structure Vu (w:World) (F:Nat->Prop) (d l b n N:Nat) (s:DS) (g:LS) (p m:Nat) (A:Nat->Option (List Nat)):Prop where
 rs:Rs w F d l b n N s g
 hn:20<=n/\n+48<=N/\N<=n+1026/\N<=4096
 lA:AOk (N-2-n) g.A
 c0:w.cell? ⟨p,0,none⟩=some (.pointer (some ⟨l,0,none⟩))
 c1:w.cell? ⟨p,1,none⟩=some (.map (some m))
 lt:p<w.heap.size
 mp:Mp w m (N-2-n) A
 ok:AOk (N-2-n) A
section
variable {w w':World} {F F':Nat->Prop} {d l b n N:Nat} {s:DS} {g:LS} {p m:Nat} {A:Nat->Option (List Nat)}
theorem Vu.step(h:Vu w F d l b n N s g p m A)(I:B0 B5 w F' w'):Vu w' F d l b n N s g p m A:=
 ⟨h.rs.over I,h.hn,h.lA,(World.cell?_of_block (I.block p h.lt (λx=>x))).trans h.c0,(World.cell?_of_block (I.block p h.lt (λx=>x))).trans h.c1,Nat.lt_of_lt_of_le h.lt I.size,h.mp.keep (I.block m h.mp.lt (λx=>x)),h.ok⟩
end
theorem C2E(F:Nat->Prop)(d l b n N:Nat)(s:DS)(g:LS)(p m:Nat)(A:Nat->Option (List Nat))(i:Nat)(w:World)(h:Vu w F d l b n N s g p m A)(hi:i<N-2-n):
 Calls Tryz.prog 94 #[.pointer (some ⟨p,0,none⟩),.int .i64 (i:Int)] w (RdR w (vwH A (D8 s n g) i)):=by
 have aK:=C6x (show∀W,B0 B5 w B5 W->Calls Tryz.prog 23 #[.pointer (some ⟨l,0,none⟩),.int .i64 (i:Int)] W (RdR W (D8 s n g i))fromλW a=>B1c l b d n N i g F s W (h.rs.over a) (by have:=h.hn;omega) h.lA hi)
 obtain⟨Hm,aF⟩:∃x,x=N-2-n:=⟨_,rfl⟩
 have aD:=h.ok
 have aC:=h.mp
 rw[<-aF]at hi aD aC
 have aG:Hm<=4096:=by have:=h.hn;omega
 obtain⟨X,hX⟩:∃X,X=(A i).getD (List.replicate 128 0):=⟨_,rfl⟩
 obtain⟨B,hB⟩:∃B,B=(A i).isSome:=⟨_,rfl⟩
 have aH:X.length=128:=by
  rw[hX]
  cases e:A i with
  |none=>simp
  |some x=>exact(aD i x e).2.1
 have aA:=C6x aH
 have HX:=C6x hX
 have Z:=C6x hB
 have HI:=C6x hi
 have aJ:=C6x aG
 have aI:=C6x aC
 have HV:=C6x h
 have c0:=h.c0
 have c1:=h.c1
 clear hi aD aC aG aH hX hB aF h
 go_enter Tryz.func94,Tryz.ntmps94
 go_upto_region 2 with(first
  |(refine B6n rfl _ _ rfl m Hm i A aI.out rfl rfl HI.out aJ.out HX.out Z.out ?_)
  |(refine B6l rfl rfl ?_)
  |(refine B6m rfl _ _ rfl _ rfl X aA.out rfl rfl ?_)
  |fail)
 obtain⟨z,Y⟩:∃z,z=w.heap.size:=⟨_,rfl⟩
 obtain⟨V,U⟩:∃V,V=w.alloc (.cells (X.map u8).toArray 173):=⟨_,rfl⟩
 rw[<-U,<-Y]
 have aB:B0 B5 w B5 V:=by rw[U];exact(B0.refl _ _).alloc _
 have aE:=C6x (show C3 V z 173 (X.map u8).toArray by rw[U,Y];exact C3.new _ _ _)
 have I:=C6x aB
 have HZ:=C6x (show w.heap.size<=z by rw[Y];exact Nat.le_refl _)
 have aL:=(HV.out.step aB).c0
 clear U Y aB c0 c1
 cases B with
 |true=>
  have HF:=C6x (show RdR w (vwH A (D8 s n g) i) (.returned (.tuple #[.slice (some ⟨z,0,none⟩) 128 128,.int .i64 0])) V by
   have e:vwH A (D8 s n g) i=X:=by
    rw[HX.out]
    unfold vwH
    obtain⟨x,hx⟩:=Option.isSome_iff_exists.1 Z.out.symm
    rw[hx];rfl
   rw[e]
   exact⟨z,rfl,HZ.out,aE.out.lt,aE.out.rdS8 aA.out,aA.out,I.out⟩)
  clear aL
  go_wp2_with fail
  exact bodyPost_ret (v:=.tuple #[.slice (some ⟨z,0,none⟩) 128 128,.int .i64 0]) (by simp[results,Tryz.results94,go_sem]) rfl HF.out
 |false=>
  have HF:=C6x (show∀e w',RdR V (D8 s n g i) e w'->RdR w (vwH A (D8 s n g) i) e w' by
   have e:vwH A (D8 s n g) i=D8 s n g i:=by
    unfold vwH
    have:A i=none:=by
     cases h:A i with
     |none=>rfl
     |some x=>have:=Z.out;rw[h]at this;cases this
    rw[this];rfl
   rw[e]
   rintro e w' ⟨z,h1,h2,h3,J,h5,h6⟩
   exact⟨z,h1,Nat.le_trans I.out.size h2,h3,J,h5,I.out.trans h6⟩)
  go_wp2_with (first
   |(go_at_call 23;refine(aK.out V I.out).mono ?_;intro e w4 J;have H4:=C6x (HF.out _ _ J);obtain⟨y,rfl,_⟩:=J)
   |fail)
  exact bodyPost_ret (v:=.tuple #[.slice (some ⟨y,0,none⟩) 128 128,.int .i64 0]) (by simp[results,Tryz.results94,go_sem]) rfl H4.out
end
section
def Y8(i:Nat):Nat:=2^(7-i%8)
def A1w(r:List Nat)(i:Nat):Bool:=(r.getD (i/8) 0).testBit (7-i%8)
def B8i(r:List Nat)(i:Nat):List Nat:=r.set (i/8) (r.getD (i/8) 0 ||| Y8 i)
def A53(r:List Nat)(i:Nat):List Nat:=r.set (i/8) (r.getD (i/8) 0 &&& (255-Y8 i))
structure Bt (r:List Nat) (f:Nat->Bool):Prop where
 len:r.length=128
 lt:∀x∈r,x<256
 bit:∀i,i<1024->A1w r i=f i
theorem A6d(i:Nat):Y8 i<256:=by
 have:7-i%8<8:=by omega
 unfold Y8
 generalize 7-i%8=k at this
 match k,this with
 |0,_|1,_|2,_|3,_|4,_|5,_|6,_|7,_=>decide
theorem B44(x i:Nat):(x &&& Y8 i=0)↔x.testBit (7-i%8)=false:=by
 unfold Y8
 generalize 7-i%8=k
 constructor
 ·intro h
  have I:(x &&& 2^k).testBit k=false:=by rw[h];exact Nat.zero_testBit k
  rw[Nat.testBit_and,Nat.testBit_two_pow]at I
  simpa using I
 ·intro h
  apply Nat.eq_of_testBit_eq
  intro j
  rw[Nat.testBit_and,Nat.testBit_two_pow,Nat.zero_testBit]
  by_cases e:k=j
  ·rw[<-e,h];rfl
  ·rw[decide_eq_false e,Bool.and_false]
theorem B6o:∀k<8,∀j<8,(255-2^k).testBit j= !decide (j=k):=by decide
theorem A1J{r:List Nat}(h:∀x∈r,x<256)(k:Nat):r.getD k 0<256:=by
 rw[List.getD_eq_getElem?_getD]
 rcases Nat.lt_or_ge k r.length with I|I
 ·rw[List.getElem?_eq_getElem I];exact h _ (List.getElem_mem I)
 ·rw[List.getElem?_eq_none I];decide
theorem A84(r:List Nat)(a b y:Nat)(I:a<r.length):(r.set a y).getD b 0=if a=b then y else r.getD b 0:=by
 rw[List.getD_eq_getElem?_getD,List.getD_eq_getElem?_getD,List.getElem?_set]
 by_cases h:a=b
 ·rw[if_pos h,if_pos h,if_pos (by omega)];rfl
 ·rw[if_neg h,if_neg h]
theorem B45{r:List Nat}(h:∀x∈r,x<256)(a y:Nat)(U:y<256):∀x∈r.set a y,x<256:=λx J=>by
 rcases List.mem_or_eq_of_mem_set J with I|I
 ·exact h x I
 ·rw[I];exact U
section
variable {r r':List Nat} {f g:Nat->Bool} {T:List Bool}
theorem Bt.congr(h:Bt r f)(e:∀i,i<1024->f i=g i):Bt r g:=⟨h.len,h.lt,λi hi=>(h.bit i hi).trans (e i hi)⟩
theorem Bt.put(h:Bt r f){i:Nat}(hi:i<1024):Bt (B8i r i) (λj=>decide (j=i)||f j):=by
 have J:=A6d i
 refine⟨by unfold B8i;rw[List.length_set,h.len],B45 h.lt _ _ (Nat.or_lt_two_pow (n:=8) (A1J h.lt _) J),λj U=>?_⟩
 unfold A1w B8i
 rw[A84 _ _ _ _ (by rw[h.len];omega),<-h.bit j U]
 by_cases e:i/8=j/8
 ·rw[if_pos e,Nat.testBit_or]
  unfold Y8 A1w
  rw[Nat.testBit_two_pow,e,Bool.or_comm]
  congr 1
  by_cases I:j=i
  ·simp[I]
  ·rw[decide_eq_false I,decide_eq_false (by omega)]
 ·rw[if_neg e,decide_eq_false (by rintro rfl;exact e rfl)];rfl
theorem Bt.drop(h:Bt r f){i:Nat}(hi:i<1024):Bt (A53 r i) (λj=> !decide (j=i)&&f j):=by
 refine⟨by unfold A53;rw[List.length_set,h.len],B45 h.lt _ _ (Nat.lt_of_le_of_lt Nat.and_le_left (A1J h.lt _)),λj J=>?_⟩
 unfold A1w A53
 rw[A84 _ _ _ _ (by rw[h.len];omega),<-h.bit j J]
 by_cases e:i/8=j/8
 ·rw[if_pos e,Nat.testBit_and]
  unfold Y8 A1w
  rw[B6o _ (by omega) _ (by omega),e,Bool.and_comm]
  congr 2
  by_cases I:j=i
  ·simp[I]
  ·rw[decide_eq_false I,decide_eq_false (by omega)]
 ·rw[if_neg e,decide_eq_false (by rintro rfl;exact e rfl)];rfl
theorem Bt.inj(h:Bt r f)(k:Bt r' f):r=r':=by
 apply List.ext_getElem (by rw[h.len,k.len])
 intro n J U
 have X:n<128:=by rw[<-h.len];exact J
 apply Nat.eq_of_testBit_eq
 intro t
 rcases Nat.lt_or_ge t 8 with W|W
 ·have I:=(h.bit (8 * n+(7-t)) (by omega)).trans (k.bit (8 * n+(7-t)) (by omega)).symm
  unfold A1w at I
  rw[show(8 * n+(7-t))/8=n by omega,show 7-(8 * n+(7-t))%8=t by omega]at I
  rw[List.getD_eq_getElem?_getD,List.getD_eq_getElem?_getD,List.getElem?_eq_getElem J,List.getElem?_eq_getElem U]at I
  exact I
 ·have V:2^8<=2^t:=Nat.pow_le_pow_right (by decide) W
  rw[Nat.testBit_lt_two_pow (Nat.lt_of_lt_of_le (h.lt _ (List.getElem_mem J)) V),Nat.testBit_lt_two_pow (Nat.lt_of_lt_of_le (k.lt _ (List.getElem_mem U)) V)]
theorem Bt.zero:Bt (List.replicate 128 0) (λ_=>false):=⟨by simp,λx I=>by rw[List.eq_of_mem_replicate I];decide,λi hi=>by
 unfold A1w
 rw[List.getD_eq_getElem?_getD,List.getElem?_replicate,if_pos (by omega)]
 simp⟩
theorem Bt.self(I:r.length=128)(J:∀x∈r,x<256):Bt r (A1w r):=⟨I,J,λ_ _=>rfl⟩
end
def Rep(r:List Nat)(T:List Bool):Prop:=Bt r (λi=>T.getD i false)
section
variable {r r':List Nat} {T:List Bool}
theorem A2S(T:List Bool)(i j:Nat)(b:Bool)(hi:i<T.length):(T.set i b).getD j false=if j=i then b else T.getD j false:=by
 rw[List.getD_eq_getElem?_getD,List.getD_eq_getElem?_getD,List.getElem?_set]
 by_cases h:i=j
 ·rw[if_pos h,if_pos h.symm,if_pos (by omega)];rfl
 ·rw[if_neg h,if_neg (Ne.symm h)]
theorem Rep.put(h:Rep r T){i:Nat}(hi:i<T.length)(I:T.length<=1024):Rep (B8i r i) (T.set i true):=
 (Bt.put h (show i<1024 by omega)).congr λj _=>by
  show _=(T.set i true).getD j false
  rw[A2S _ _ _ _ hi]
  by_cases e:j=i<;>simp[e]
theorem Rep.drop(h:Rep r T){i:Nat}(hi:i<T.length)(I:T.length<=1024):Rep (A53 r i) (T.set i false):=
 (Bt.drop h (show i<1024 by omega)).congr λj _=>by
  show _=(T.set i false).getD j false
  rw[A2S _ _ _ _ hi]
  by_cases e:j=i<;>simp[e]
theorem Rep.inj(h:Rep r T)(k:Rep r' T):r=r':=Bt.inj h k
theorem B8j(n i:Nat):(List.replicate n false).getD i false=false:=by
 rw[List.getD_eq_getElem?_getD,List.getElem?_replicate]
 split<;>rfl
theorem Rep.zero(n:Nat):Rep (List.replicate 128 0) (List.replicate n false):=Bt.zero.congr λi _=>(B8j n i).symm
theorem A0B{T:List Bool}{i:Nat}(h:i<T.length):T.getD i false=T[i]:=by
 rw[List.getD_eq_getElem?_getD,List.getElem?_eq_getElem h];rfl
theorem Rep.has(h:Rep r T){i:Nat}(hi:i<T.length)(I:T.length<=1024):A1w r i=T.getD i false:=Bt.bit h i (by omega)
end
def L9(T:List Bool):Nat:=T.findIdx (! ·)
def Y9(T:List Bool):List Bool:=T.set (L9 T) true
def Y0(T:List Bool):Int:=if L9 T<T.length then(L9 T:Int)else -1
def Y1(T:List Bool):Int:=if L9 T<T.length then 0 else 8
def U0(T:List Bool)(i:Int):Prop:=0<=i/\i<(T.length:Int)
instance (T:List Bool) (i:Int):Decidable (U0 T i):=by unfold U0;infer_instance
def A7Z(T:List Bool)(i:Int):Bool:=decide (U0 T i)&&T.getD i.toNat false
def A6P(T:List Bool)(i:Int):Int:=if U0 T i then(if T.getD i.toNat false then 10 else 0)else 2
def A6Q(T:List Bool)(i:Int):List Bool:=if U0 T i then T.set i.toNat true else T
def A1T(T:List Bool)(i:Int):Int:=if U0 T i then(if T.getD i.toNat false then 0 else 11)else 2
def Z5(T:List Bool)(i:Int):List Bool:=if U0 T i then T.set i.toNat false else T
def A0C(T:List Bool):Nat:=T.count false
theorem A4n(T:List Bool):(Y9 T).length=T.length:=by simp[Y9]
theorem A4o(T:List Bool)(i:Int):(Z5 T i).length=T.length:=by unfold Z5;split<;>simp
theorem B8k{T:List Bool}{k:Nat}(I:k<T.length)(h:T.getD k false=false)(U:∀j,j<k->T.getD j false=true):L9 T=k:=by
 unfold L9
 rw[List.findIdx_eq I]
 rw[A0B I]at h
 refine⟨by rw[h];rfl,λj J=>?_⟩
 have:=U j J
 rw[A0B (by omega)]at this
 rw[this];rfl
theorem A39{T:List Bool}(h:∀j,j<T.length->T.getD j false=true):L9 T=T.length:=by
 unfold L9
 rw[List.findIdx_eq_length]
 intro x J
 obtain⟨j,I,rfl⟩:=List.getElem_of_mem J
 have:=h j I
 rw[A0B I]at this
 rw[this];rfl
theorem B8l{T:List Bool}(h:L9 T=T.length):Y9 T=T:=by
 unfold Y9
 rw[h,List.set_eq_of_length_le (Nat.le_refl _)]
theorem B1e{T:List Bool}{i:Nat}{b:Bool}(h:T.getD i false=b)(hi:i<T.length):T.set i b=T:=by
 apply List.ext_getElem (by simp)
 intro j I J
 rw[List.getElem_set]
 split
 ·rename_i e
  subst e
  rw[<-h,A0B hi]
 ·rfl
def B1f(l:List Nat)(n:Nat):Prop:=∀j,n<=j->j<1024->A1w l j=false
def A2n(l:List Nat)(n:Nat):List Bool:=(List.range n).map (A1w l)
def A1d(l:List Nat)(n:Int):Prop:=1<=n/\n<=1024/\l.length=128/\B1f l n.toNat
theorem P2(l:List Nat)(n:Nat):(A2n l n).length=n:=by simp[A2n]
theorem B1g(l:List Nat)(n j:Nat)(h:j<n):(A2n l n).getD j false=A1w l j:=by
 rw[List.getD_eq_getElem?_getD]
 unfold A2n
 rw[List.getElem?_map,List.getElem?_range h]
 rfl
theorem B6p(l:List Nat)(n j:Nat)(h:n<=j):(A2n l n).getD j false=false:=by
 rw[List.getD_eq_getElem?_getD,List.getElem?_eq_none (by rw[P2];exact h)]
 rfl
theorem A85{l:List Nat}{n:Nat}(I:l.length=128)(J:∀x∈l,x<256)(h:B1f l n):Rep l (A2n l n):=
 (Bt.self I J).congr λj U=>by
  show A1w l j=(A2n l n).getD j false
  rcases Nat.lt_or_ge j n with h3|h3
  ·rw[B1g l n j h3]
  ·rw[B6p l n j h3];exact h j h3 U
theorem B1h{l r:List Nat}{n:Nat}(U:Bt r (λj=>decide (n<=j)&&A1w l j)):r=List.replicate 128 0↔B1f l n:=by
 constructor
 ·intro e j I J
  have h:=U.bit j J
  rw[e,Bt.zero.bit j J,decide_eq_true I]at h
  exact h.symm
 ·intro h
  refine U.inj (Bt.zero.congr λj V=>?_)
  by_cases I:n<=j
  ·rw[decide_eq_true I,h j I V];rfl
  ·rw[decide_eq_false I];rfl
end
end Go.Proofs.YtbefmjiclpobjaaGreat
