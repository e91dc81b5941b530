import Derived.Test.YtbefmjiclpobjaaGreatMj05
import Derived.Test.YtbefmjiclpobjaaGreatMj03
import Derived.Test.YtbefmjiclpobjaaGreatMj04
import Derived.Test.YtbefmjiclpobjaaGreatMj00
import Derived.Deep.MidRow
import Derived.Deep.RegionHeld3
namespace Go.Proofs.YtbefmjiclpobjaaGreat
set_option maxHeartbeats 6400000
set_option maxRecDepth 3000
section
open Go.RowKit
structure WQ (W:World) (F:Nat->Prop) (b:Nat) (l:List (Nat×Nat)) (w:World):Prop where
 st:WSt w F b (wN l) (wL l)
 bd:Bd F w
 adv:B0 B5 W F w
theorem WQ.over{W w w':World}{F G:Nat->Prop}{b:Nat}{l:List (Nat×Nat)}(h:WQ W F b l w)(I:B0 B5 w G w'):WQ W F b l w':=by
 obtain⟨⟨⟨r,U,Y⟩,h3,Z⟩,h5,J⟩:=h
 refine⟨⟨⟨r,U.keep (I.block b U.lt (λx=>x)),Y.far I (λ_ x=>x.elim)⟩,h3,Z⟩,I.bd h5,?_⟩
 exact⟨I.os.trans J.os,I.tape.trans J.tape,I.output.trans J.output,Nat.le_trans J.size I.size,λk X hn=>(I.block k (Nat.lt_of_lt_of_le X J.size) (λx=>x)).trans (J.block k X hn),J.into⟩
theorem WQ.new(w:World):Calls Tryz.prog 133 #[] w λe w'=>∃b F,e= .returned (.pointer (some ⟨b,0,none⟩))/\WQ w F b [] w':=
 (A5W w).mono (by rintro e w' ⟨b,F,rfl,I,J,h3⟩;exact⟨b,F,rfl,I,h3,J⟩)
theorem WQ.put{W w:World}{F:Nat->Prop}{b:Nat}{l:List (Nat×Nat)}(h:WQ W F b l w)(x n:Nat)(X:n<=64)(Y:x<2^n)(U:wL l+n<=1000000000):
 Calls Tryz.prog 134 #[.pointer (some ⟨b,0,none⟩),.int .u64 (x:Int),.int .i64 (n:Int)] w λe w'=>∃F',e= .returned (.pointer (some ⟨b,0,none⟩))/\WQ W F' b (l++[(x,n)]) w'/\B0 F w F' w':=
 (A9u b (wN l) (wL l) x n F w h.st h.bd X Y U).mono (by
  rintro e w' ⟨rfl,F',J,I,h3⟩
  exact⟨F',rfl,⟨by rw[A4c,A1D];exact J,h3,h.adv.trans I⟩,I⟩)
def A9z(ps:List Pt)(k:Nat):List (Nat×Nat):=(ps.length,8)::(ps.take k).flatMap pW
def A6B(ps:List Pt)(k x:Nat)(d:List Nat)(j:Nat):List (Nat×Nat):=A9z ps k++((x,12)::(d.take j).map bW)
theorem B6a{ps:List Pt}{k x j:Nat}{d:List Nat}(h:j<d.length):A6B ps k x d j++[(d.getD j 0,8)]=A6B ps k x d (j+1):=by
 unfold A6B
 rw[List.take_succ_eq_append_getElem h,List.map_append,List.append_assoc,List.cons_append]
 simp[bW,List.getD_eq_getElem?_getD,List.getElem?_eq_getElem h]
theorem B6b{ps:List Pt}{k:Nat}(h:k<ps.length):A6B ps k ps[k].a.toNat ps[k].d ps[k].d.length=A9z ps (k+1):=by
 unfold A6B A9z
 rw[List.take_length,List.take_succ_eq_append_getElem h,List.flatMap_append,List.cons_append]
 simp[pW]
theorem A90{ps:List Pt}{k:Nat}(J:∀p∈ps,p.d.length=128)(I:k<=ps.length):wL (A9z ps k)=8+1036 * k:=by
 unfold A9z
 rw[A2L,A5Y _ (λp h=>J p (List.mem_of_mem_take h)),List.length_take,Nat.min_eq_left I]
theorem C03{ps:List Pt}{k x j:Nat}{d:List Nat}(U:∀p∈ps,p.d.length=128)(J:k<=ps.length)(I:j<=d.length):wL (A6B ps k x d j)=8+1036 * k+(12+8 * j):=by
 unfold A6B
 rw[A1q,A90 U J,A2L,A66,List.length_take,Nat.min_eq_left I]
def EnL(W:World)(b:Nat)(N:Nat)(ps:List Pt)(t:Value)(wr:World):Prop:=∃(k:Nat) (F:Nat->Prop),k<=N/\t= .int .i64 (k:Int)/\WQ W F b (A9z ps k) wr
def EnM(W:World)(b:Nat)(ps:List Pt)(k x:Nat)(d:List Nat)(t:Value)(wr:World):Prop:=∃(j:Nat) (F:Nat->Prop),j<=128/\t= .int .i64 (j:Int)/\WQ W F b (A6B ps k x d j) wr
def EnR(w:World)(ps:List Pt)(e:Ending)(w':World):Prop:=∃v F,e= .returned (.tuple #[v,.int .i64 0])/\Sl w' F 5 1 v (L8 ps).length ((L8 ps).map u8)/\B0 B5 w F w'
theorem A3k{x:Nat}(h:x<18446744073709551616):IntKind.u64.wrap (x:Int)=(x:Int):=by rw[IntKind.wrap_u64];omega
theorem B2Z(A0:Option Addr)(N k0:Nat)(ps:List Pt)(G:Nat->Prop)(w:World)(h:QRd w G (.slice A0 N k0) ps)(ht:A0h ps 4096)(h8:∀p∈ps,∀x∈p.d,x<256):
 Calls Tryz.prog 208 #[.slice A0 N k0] w (EnR w ps):=by
 have hN:=h.len.1
 have aH:N<=24:=by have:=ht.1.2;omega
 have hd:∀p∈ps,p.d.length=128:=λp hp=>(ht.row p hp).2
 have bG:(N:Int)<=24:=by omega
 have bJ:IntKind.u64.wrap (N:Int)=(N:Int):=A3k (by omega)
 have HP:=C6x h
 have HN:=C6x hN
 have HT:=C6x ht
 have H8:=C6x h8
 have HD:=C6x hd
 have aB:=C6x aH
 clear h hN ht h8 hd aH
 go_enter Tryz.func208,Tryz.ntmps208
 go_wp2_with fail
 refine(WQ.new w).mono ?_
 rintro e w1 ⟨b,F1,rfl,q1⟩
 have bD:=C6x q1
 have aS:=C6x (q1.put N 8 (by decide) (by have:=aB.out;omega) (by decide))
 clear q1
 go_wp2_with fail
 refine aS.out.mono ?_
 rintro e w2 ⟨F2,rfl,q2, -⟩
 have aV:=C6x q2
 clear q2
 go_wp2_with fail
 go_loopw [16] (EnL w b N ps) (λt _=>N-(intOf t).toNat)
 case atStart=>exact⟨0,F2,Nat.zero_le _,rfl,by have:=aV.out;unfold A9z;rw[<-HN.out];exact this⟩
 case round=>
  obtain⟨k,F,hk,rfl,W⟩:=hrel
  have HQ:=C6x W
  by_cases I:k<N
  ·have bI:(k:Int)<(N:Int):=by omega
   have J:k<ps.length:=by rw[<-HN.out];exact I
   obtain⟨b1,o,a,q,rfl,aI,⟨c0,c1⟩,hr, -⟩:=HP.out.row J
   have aJ:=W.adv.block b1 aI.1 (λx=>x)
   rw[<-World.cell?_of_block aJ]at c0 c1
   have Y:=HD.out _ (List.getElem_mem J)
   have aA:=(HT.out.row _ (List.getElem_mem J)).1
   have aC:=H8.out _ (List.getElem_mem J)
   have U:=B6b J
   obtain⟨p,hp⟩:∃p,p=ps[k]:=⟨_,rfl⟩
   rw[<-hp]at c0 c1 hr Y aA aC U
   clear hp
   obtain⟨pa,pd⟩:=p
   simp only at c0 c1 hr Y aA aC U
   obtain⟨x,rfl⟩:=Int.eq_ofNat_of_zero_le aA.1
   have hx:x<2^12:=by have:=aA.2;omega
   rw[Y]at c1 hr U
   obtain⟨V,hV⟩:∃V,V=wr.alloc (.cells #[.int .i64 (x:Int),.slice a 128 q] 239):=⟨_,rfl⟩
   obtain⟨z,hz⟩:∃z,z=wr.heap.size:=⟨_,rfl⟩
   have aF:B0 B5 wr B5 V:=by rw[hV];exact(B0.refl _ _).alloc _
   have aE:=C6x (show C3 V z 239 #[.int .i64 (x:Int),.slice a 128 q]by rw[hV,hz];exact C3.new _ _ _)
   have bF:=C6x (W.over aF)
   have aG:=C6x hr
   have bK:IntKind.u64.wrap (x:Int)=(x:Int):=A3k (by omega)
   have HV:=C6x hV
   have HZ:=C6x hz
   have aO:=C6x I
   have HX:=C6x hx
   have aL:=C6x aC
   have aQ:=C6x U
   have aD:=C6x Y
   have aN:=C6x (Nat.le_of_lt J)
   have Z:=(W.over aF).put x 12 (by decide) hx (by rw[A90 HD.out (Nat.le_of_lt J)];have:=aB.out;omega)
   have aT:=C6x Z
   have bA:=C6x (show¬F z fromλh=>by have:=W.bd z h;omega)
   clear W I hr aA aC U Y hx aF hV hz Z J aI aJ
   go_upto_region 5 with(fail)
   rw[<-HV.out,<-HZ.out]
   clear c0 c1
   obtain⟨z0,z1⟩:=C26 aE.out
   go_wp2_with fail
   refine aT.out.mono ?_
   rintro e w3 ⟨F3,rfl,q3,a3⟩
   have aW:=C6x (show WQ w F3 b (A6B ps k x pd 0) w3 from q3)
   have bC:=C26 (aE.out.keep (a3.block z aE.out.lt bA.out))
   obtain⟨y0,y1⟩:=bC
   clear q3 a3 z0 z1
   go_wp2_with fail
   go_loopw [28] (EnM w b ps k x pd) (λt _=>128-(intOf t).toNat)
   case atStart=>exact⟨0,F3,Nat.zero_le _,rfl,aW.out⟩
   case round=>
    obtain⟨j,F4,hj,rfl,X⟩:=hrel
    by_cases I:j<128
    ·have bH:(j:Int)<128:=by omega
     obtain⟨b2,o2,rfl,bB, -⟩:=aG.out.cells (by decide) (by decide)
     have hc:=(aG.out.far (λk _ _ h=>X.adv.block k h (λh=>h)) X.adv.size).at8 I
     obtain⟨y,hy⟩:∃y,y=pd.getD j 0:=⟨_,rfl⟩
     rw[<-hy]at hc
     have aK:y<256:=by
      rw[hy,List.getD_eq_getElem?_getD,List.getElem?_eq_getElem (by have:=aD.out;omega)]
      exact aL.out _ (List.getElem_mem _)
     have bM:IntKind.u64.wrap (y:Int)=(y:Int):=A3k (by omega)
     have Z:=X.put y 8 (by decide) aK (by rw[C03 HD.out aN.out (by have:=aD.out;omega)];have:=aB.out;omega)
     have aU:=C6x Z
     have U:A6B ps k x pd j++[(y,8)]=A6B ps k x pd (j+1):=by rw[hy];exact B6a (by have:=aD.out;omega)
     have aR:=C6x U
     have aP:=C6x I
     clear X I hj bB hy aK Z U
     go_wp2_with fail
     refine aU.out.mono ?_
     rintro e w5 ⟨F5,rfl,q5, -⟩
     rw[aR.out]at q5
     have aX:=C6x q5
     clear q5
     go_wp2_with fail
     have I:=aP.out
     exact⟨⟨j+1,F5,by omega,by go_num,aX.out⟩,by simp[intOf];omega⟩
    ·obtain rfl:j=128:=by omega
     have aY:=C6x X
     clear X I hj
     go_wp2_with fail
     have I:=aO.out
     refine⟨⟨k+1,F4,by omega,by go_num,?_⟩,by simp[intOf];omega⟩
     rw[<-aQ.out]
     exact aY.out
  ·obtain rfl:k=N:=by omega
   have hw:=A5X b _ _ F wr W.st (by rw[A90 HD.out (by have:=HN.out;omega)];have:=aB.out;omega)
   have e1:A9z ps k=A0u ps:=by unfold A9z A0u;rw[HN.out,List.take_length]
   rw[e1]at hw
   have aM:=C6x hw
   have aZ:=C6x (show(L8 ps).length=qn (wL (A0u ps))by rw[L8,V1,C7])
   clear W I hk hw e1
   go_wp2_with fail
   refine aM.out.mono ?_
   rintro e w7 ⟨v,F7,rfl,hs,a7⟩
   have HF:=C6x (show EnR w ps (.returned (.tuple #[v,.int .i64 0])) w7 from⟨v,F7,rfl,by rw[aZ.out];exact hs,(HQ.out.adv.sub (G:=B5) (λ_ x=>x.elim)).trans a7⟩)
   clear hs a7
   go_wp2_with fail
   exact bodyPost_ret (v:=.tuple #[v,.int .i64 0]) (by simp[results,Tryz.results208,go_sem]) rfl HF.out
end
section
open Go.RowKit
theorem B7S(e c:Nat)(A0:Option Addr)(N X:Nat)(ps:List Pt)(G:Nat->Prop)(w:World)(h:QRd w G (.slice A0 N X) ps)(W:A0h ps 4096)(Z:∀p∈ps,∀x∈p.d,x<256):
 Calls Tryz.prog 186 #[.int .u64 (e:Int),.int .u64 (c:Int),.slice A0 N X] w (A4N w e c (L8 ps)):=by
 have HE:=C6x (B2Z A0 N X ps G w h W Z)
 have HL:=C6x (A33 W)
 clear h W Z
 go_enter Tryz.func186,Tryz.ntmps186
 go_wp2_with fail
 refine HE.out.mono ?_
 rintro x w1 ⟨v,F,rfl,hs,I⟩
 have HC:=C6x (B5Z e c v (L8 ps) w1 hs.rd (by have:=HL.out;omega))
 have HA:=C6x (I.sub (G:=B5) (λ_ x=>x.elim))
 have aA:=C6x (show∀G,Bd G w->Bd G w1 fromλG U=>I.bd U)
 clear hs I
 go_wp2_with fail
 refine HC.out.mono ?_
 rintro x w2 ⟨A,n,k,rfl,hp,Y⟩
 obtain⟨E,J⟩:∃E,E=V2 e c (L8 ps).length:=⟨_,rfl⟩
 have HF:=C6x (show A4N w e c (L8 ps) (.returned (.tuple #[.slice A n k,.int .i64 E])) w2 from⟨A,n,k,by rw[J],λG U=>hp G (aA.out G U),HA.out.trans Y⟩)
 rw[<-J]
 clear hp Y J
 go_wp2_with fail
 exact bodyPost_ret (v:=.tuple #[.slice A n k,.int .i64 E]) (by simp[results,Tryz.results186,go_sem]) rfl HF.out
theorem PRd.len{w:World}{A:Option Addr}{n k:Nat}{ps:List Pc}(h:PRd w (.slice A n k) ps):n=ps.length/\n<=k/\k<=maxLen:=by
 obtain⟨A',U,e,I,J,h3⟩:=h
 injection e with e1 e2 e3
 omega
end
section
open Go.RowKit
def hZ:Hd:=⟨0,0,0⟩
def hv(h:Hd):Value:=.agg #[.int .u64 (h.g:Int),.int .u64 (h.t:Int),.int .u64 (h.f:Int)]
def unO(l:List Nat)(I:Nat):Option Hd:=(A1o l).bind λh=>if h.g%2=I then some h else none
theorem B0V{l:List Nat}{I:Nat}(h:A1o l=none):unO l I=none:=by rw[unO,h];rfl
theorem C27{l:List Nat}{I:Nat}{h:Hd}(J:A1o l=some h)(U:h.g%2≠I):unO l I=none:=by rw[unO,J];exact if_neg U
theorem A91{l:List Nat}{I:Nat}{h:Hd}(J:A1o l=some h)(U:h.g%2=I):unO l I=some h:=by rw[unO,J];exact if_pos U
end
section
open Go.RowKit
def WrS(w:World)(F:Nat->Prop)(b:Nat)(ok:Prop)(N m:Nat):Prop:=(ok/\WSt w F b N m/\Bd F w)\/(¬ok/\B5R w F b)
structure WE (V:World) (F:Nat->Prop) (b:Nat) (ok:Prop) (N m:Nat) (w:World):Prop where
 ws:WrS w F b ok N m
 ad:B0 B5 V F w
section
variable {V w:World} {F:Nat->Prop} {b N m:Nat} {ok:Prop}
theorem WE.cells(h:WE V F b ok N m w){y:Nat}{t:TypeId}{g J f:Int}(I:C3 V y t #[.int .u64 g,.int .u64 J,.int .u64 f]):
 w.cell? ⟨y,0,none⟩=some (.int .u64 g)/\w.cell? ⟨y,1,none⟩=some (.int .u64 J)/\w.cell? ⟨y,2,none⟩=some (.int .u64 f):=C3.three (I.keep (h.ad.block y I.lt (λh=>h)))
theorem WE.new(U:B0 B5 V B5 w):Calls Tryz.prog 133 #[] w λe w'=>∃b F,e= .returned (.pointer (some ⟨b,0,none⟩))/\WE V F b True 0 0 w':=by
 refine(A5W w).mono ?_
 rintro e w' ⟨b,F,rfl,I,J,h3⟩
 exact⟨b,F,rfl,.inl ⟨trivial,I,h3⟩,U.trans J⟩
theorem WE.put(h:WE V F b ok N m w)(x n:Nat)(Y:n<=64)(hx:x<18446744073709551616)(Z:m+n<=1000000000):
 Calls Tryz.prog 134 #[.pointer (some ⟨b,0,none⟩),.int .u64 (x:Int),.int .i64 (n:Int)] w λe w'=>∃F',e= .returned (.pointer (some ⟨b,0,none⟩))/\WE V F' b (ok/\x<2^n) (N * 2^n+x) (m+n) w':=by
 rcases h.ws with⟨U,I,h3⟩|⟨U,I⟩
 ·by_cases J:x<2^n
  ·refine(A9u b N m x n F w I h3 Y J Z).mono ?_
   rintro e w' ⟨rfl,F',W,X,k3⟩
   exact⟨F',rfl,.inl ⟨⟨U,J⟩,W,k3⟩,h.ad.trans X⟩
  ·refine(B4m b N m x n F w I h3 hx (.inr (.inr ⟨n,rfl,Y,Nat.le_of_not_lt J⟩))).mono ?_
   rintro e w' ⟨rfl,W,X⟩
   exact⟨F,rfl,.inr ⟨λh=>J h.2,W⟩,h.ad.trans X⟩
 ·refine(B4n b x n F w I).mono ?_
  rintro e w' ⟨rfl,rfl⟩
  exact⟨F,rfl,.inr ⟨λh=>U h.1,I⟩,h.ad⟩
theorem WE.done_[Decidable ok](h:WE V F b ok N m w)(X:m<=1000000000):
 Calls Tryz.prog 135 #[.pointer (some ⟨b,0,none⟩)] w λe w'=>∃A n k F',e= .returned (.tuple #[.slice A n k,.int .i64 (if ok then 0 else 2)])/\(ok->n=qn m)/\(ok->Sl w' F' 5 1 (.slice A n k) n ((V1 N m).map u8))/\B0 B5 V F' w':=by
 rcases h.ws with⟨I,J,h3⟩|⟨I,J⟩
 ·refine(A5X b N m F w J X).mono ?_
  rintro e w' ⟨v,F',rfl,W,U⟩
  obtain⟨A,k,rfl,_⟩:=W.form0
  exact⟨A,_,k,F',by rw[if_pos I],λ_=>rfl,λ_=>W,(h.ad.sub (λ_ x=>x.elim)).trans U⟩
 ·refine(B0K b F w J).mono ?_
  rintro e w' ⟨rfl,U⟩
  exact⟨none,0,0,B5,by rw[if_neg I],λh=>absurd h I,λh=>absurd h I,(h.ad.sub (λ_ x=>x.elim)).trans U⟩
end
def HsR(w:World)(e:Nat)(h:Hd)(x:Ending)(w':World):Prop:=
 ∃A m k F,x= .returned (.tuple #[.slice A m k,.int .i64 (if hOk e h then 0 else 2)])/\B0 B5 w F w'/\(hOk e h->m=128/\Sl w' F 5 1 (.slice A 128 k) 128 ((A1b e h).map u8))/\(¬hOk e h->A=none/\m=0/\k=0)
theorem B7T{k:IntKind}{a b:Int}(h:a=b):Ending.returned (.int k a)= .returned (.int k b):=by rw[h]
theorem A81(g t f:Nat)(w:World):Calls Tryz.prog 122 #[.agg #[.int .u64 (g:Int),.int .u64 (t:Int),.int .u64 (f:Int)]] w λx w'=>x= .returned (.int .i64 ((g%2:Nat):Int))/\B0 B5 w B5 w':=by
 go_enter Tryz.func122,Tryz.ntmps122
 go_wp2_with fail
 go_ret
 exact⟨B7T (by first|omega|(simp;omega)),(B0.refl _ _).alloc _⟩
theorem B6c(e:Nat)(h:Hd)(w:World)(ht:h.t<18446744073709551616)(hf:h.f<18446744073709551616):
 Calls Tryz.prog 224 #[.int .u64 (e:Int),.agg #[.int .u64 (h.g:Int),.int .u64 (h.t:Int),.int .u64 (h.f:Int)]] w (HsR w e h):=by
 obtain⟨g,t,f⟩:=h
 simp only at ht hf⊢
 obtain⟨y,hy⟩:∃y,y=w.heap.size:=⟨_,rfl⟩
 obtain⟨V,hV⟩:∃V,V=w.alloc (.cells #[.int .u64 (g:Int),.int .u64 (t:Int),.int .u64 (f:Int)] 135):=⟨_,rfl⟩
 have J:=C6x (show C3 V y 135 #[.int .u64 (g:Int),.int .u64 (t:Int),.int .u64 (f:Int)]by rw[hV,hy];exact C3.new _ _ _)
 have HA:=C6x (show B0 B5 w B5 V by rw[hV];exact(B0.refl _ _).alloc _)
 have HV:=C6x hV
 have aK:=C6x hy
 have aJ:=C6x ht
 have aG:=C6x hf
 have X:=C6x (C3.three (w:=V.drew) J.out)
 clear hV hy ht hf
 go_enter Tryz.func224,Tryz.ntmps224
 go_wp2_with fail
 rw[<-HV.out,<-aK.out]
 refine D6 (S:=(λw'=>w'.cell? ⟨y,0,none⟩=some (.int .u64 (g:Int))/\w'.cell? ⟨y,1,none⟩=some (.int .u64 (t:Int))/\w'.cell? ⟨y,2,none⟩=some (.int .u64 (f:Int)))) (by with_reducible first|exact U.out|exact K3.out|exact Z.out|exact Y.out|exact X.out) (λhH=>?_)
 refine C64 1 rfl ?_
 refine C64 2 rfl ?_
 refine C64 4 rfl ?_
 refine C64 5 rfl ?_
 refine C6z 0 rfl (λK hK=>?_)
 go_simp
 refine(WE.new (B0.refl B5 V).drew).mono ?_
 rintro x w1 ⟨b,F1,rfl,g1⟩
 have G1:=C6x g1
 have Y:=C6x (g1.cells J.out)
 clear g1
 go_wp2_with fail
 refine C60 hK (by with_reducible first|exact U.out|exact K3.out|exact Z.out|exact Y.out|exact X.out) ?_
 clear hK K hH
 intro hH
 try simp only[Act.put,sA,sB,sC]
 refine C6z 3 rfl (λK hK=>?_)
 go_simp
 refine(G1.out.put t 40 (by decide) aJ.out (by decide)).mono ?_
 rintro x w2 ⟨F2,rfl,g2⟩
 have G2:=C6x g2
 have Z:=C6x (g2.cells J.out)
 clear g2
 go_wp2_with fail
 refine C60 hK (by with_reducible first|exact U.out|exact K3.out|exact Z.out|exact Y.out|exact X.out) ?_
 clear hK K hH
 intro hH
 try simp only[Act.put,sA,sB,sC]
 refine C6z 6 rfl (λK hK=>?_)
 go_simp
 refine(G2.out.put f 24 (by decide) aG.out (by decide)).mono ?_
 rintro x w3 ⟨F3,rfl,g3⟩
 have G3:=C6x g3
 have K3:=C6x (g3.cells J.out)
 clear g3
 go_wp2_with fail
 refine C60 hK (by with_reducible first|exact U.out|exact K3.out|exact Z.out|exact Y.out|exact X.out) ?_
 clear hK K hH
 intro hH
 try simp only[Act.put,sA,sB,sC]
 refine C6z 7 rfl (λK hK=>?_)
 go_simp
 refine(G3.out.done_ (by decide)).mono ?_
 rintro x w4 ⟨A,m,k,F4,rfl,d4,s4,a4⟩
 obtain⟨E,hE⟩:∃E:Int,E=if(True/\t<2^40)/\f<2^24 then 0 else 2:=⟨_,rfl⟩
 rw[<-hE]
 have HE:=C6x hE
 clear hE
 have U:=C6x (C3.three (J.out.keep (a4.block y J.out.lt (λh=>h))))
 have aF:=C6x d4
 have aH:=C6x s4
 have aE:=C6x a4
 clear d4 s4 a4
 go_wp2_with fail
 refine C60 hK (by with_reducible first|exact U.out|exact K3.out|exact Z.out|exact Y.out|exact X.out) ?_
 clear hK K hH
 intro hH
 try simp only[Act.put,sA,sB,sC]
 refine C64 8 rfl ?_
 refine C64 9 rfl ?_
 refine C64 10 rfl ?_
 refine C64 11 rfl ?_
 refine C64 12 rfl ?_
 refine wpAnyH_done (by kernel_rfl) ?_ _
 have aB:=C6x (HA.out.trans aE.out)
 by_cases I:(True/\t<2^40)/\f<2^24
 ·obtain rfl:E=0:=by rw[HE.out,if_pos I]
  obtain rfl:m=qn 64:=aF.out I
  have hs:=aH.out I
  have er:V1 ((0 * 2^40+t) * 2^24+f) (0+40+24)=A1R ⟨g,t,f⟩:=by
   rw[Nat.zero_mul,Nat.zero_add,show 0+40+24=64 from rfl,C4g];rfl
  rw[er]at hs
  have aD:Calls Tryz.prog 194 #[.agg #[.int .u64 (e:Int),.int .u64 (g:Int),.bool true,.bool true,.slice A (qn 64) k]] w4 (C1Y w4 (hPc e ⟨g,t,f⟩)):=B0C (hPc e ⟨g,t,f⟩) _ w4 (show Rd w4 1 _ (A1R ⟨g,t,f⟩).length ((A1R ⟨g,t,f⟩).map u8)by rw[A1C];exact hs.rd) (B0F _)
  have aI:=C6x aD
  have HK:=C6x I
  obtain⟨s0,s1,s2⟩:=U.out
  clear I hs er aD
  go_wp2_with fail
  refine aI.out.mono ?_
  intro x w5 h5
  obtain⟨A5,m5,k5,F5,rfl,a5,p5,n5⟩:=h5
  have hh:hOk e ⟨g,t,f⟩↔(hPc e ⟨g,t,f⟩).ok:=⟨A4K,λo=>⟨⟨o.1,o.2.1⟩,HK.out.1.2,HK.out.2⟩⟩
  have W:HsR w e ⟨g,t,f⟩ (.returned (.tuple #[.slice A5 m5 k5,.int .i64 (A5w (hPc e ⟨g,t,f⟩))])) w5:=by
   refine⟨A5,m5,k5,F5,?_,(aB.out.sub (λ_ x=>x.elim)).trans a5,λo=>p5 (hh.mp o),λo=>?_⟩
   ·rw[A5w]
    by_cases o:(hPc e ⟨g,t,f⟩).ok
    ·rw[if_pos o,if_pos (hh.mpr o)]
    ·rw[if_neg o,if_neg (λk=>o (hh.mp k))]
   ·obtain⟨q1,q2,q3⟩:=n5 (λk=>o (hh.mpr k))
    exact⟨q1,q2,q3⟩
  obtain⟨E5,aC⟩:∃E,E=A5w (hPc e ⟨g,t,f⟩):=⟨_,rfl⟩
  rw[<-aC]at W⊢
  have aA:=C6x W
  clear W aC hh p5 n5 a5
  go_wp2_with fail
  exact bodyPost_ret (v:=.tuple #[.slice A5 m5 k5,.int .i64 E5]) (by simp[results,Tryz.results224,go_sem]) rfl aA.out
 ·obtain rfl:E=2:=by rw[HE.out,if_neg I]
  have W:HsR w e ⟨g,t,f⟩ (.returned (.tuple #[.slice none 0 0,.int .i64 2])) w4:=by
   have hn:¬hOk e ⟨g,t,f⟩:=λo=>I ⟨⟨trivial,o.2.1⟩,o.2.2⟩
   exact⟨none,0,0,B5,by rw[if_neg hn],aB.out.sub (λ_ x=>x.elim),λo=>absurd o hn,λ_=>⟨rfl,rfl,rfl⟩⟩
  have aA:=C6x W
  clear W I
  go_wp2_with fail
  exact bodyPost_ret (v:=.tuple #[.slice none 0 0,.int .i64 2]) (by simp[results,Tryz.results224,go_sem]) rfl aA.out
end
section
structure DS where
 L:List (List Nat)
 Q:List (Nat×List Nat)
 dead:Bool
 fuse:Option Nat
def A92(L:List (List Nat))(q:Nat×List Nat)(m:Nat):List (List Nat):=L.set q.1 (q.2.take m++(L.getD q.1 []).drop m)
def U9(L:List (List Nat))(Q:List (Nat×List Nat)):List (List Nat):=Q.foldl (λl q=>l.set q.1 q.2) L
def A0m(c:Nat->Nat)(Q:List (Nat×List Nat))(L:List (List Nat)):Nat->List (List Nat)
 |0=>L
 |k+1=>A92 (A0m c Q L k) (Q.getD k (0,[])) (c k)
structure DS.ok (s:DS) (n:Nat):Prop where
 len:s.L.length=n
 row:∀r∈s.L,r.length=128
 at_:∀q∈s.Q,q.1<n/\q.2.length=128
 dd:s.dead=true->s.fuse=some 0
 fz:∀f,s.fuse=some f->f<9223372036854775808
def newS(n:Nat):DS:=⟨List.replicate n (List.replicate 128 0),[],false,none⟩
def P0(s:DS):DS×Bool:=
 match s.fuse with
 |none=>(s,true)
 |some 0=>({ s with dead:=true },false)
 |some (k+1)=>({ s with fuse:=some k },true)
def L3(s:DS)(i:Int)(b:List Nat):DS×Int:=
 if i<0\/(s.L.length:Int)<=i\/b.length≠128 then(s,2)else if(P0 s).2 then({ (P0 s).1 with Q:=s.Q++[(i.toNat,b)] },0)else((P0 s).1,7)
def E0(s:DS):DS×Int:=if(P0 s).2 then({ (P0 s).1 with L:=U9 s.L s.Q,Q:=[] },0)else((P0 s).1,7)
def kept(J:List Int)(I:Int)(q i:Nat):Nat:=if 0<I/\I<128/\i+1=q then I.toNat else if J.getD i 0≠0 then 128 else 0
def isS(s:DS)(i:Nat):List Nat:=(U9 s.L s.Q).getD i []
theorem A4f(s:DS):(P0 s).1.L=s.L:=by unfold P0;split<;>rfl
theorem A1E(s:DS):(P0 s).1.Q=s.Q:=by unfold P0;split<;>rfl
theorem A1s{s:DS}{n:Nat}(h:s.ok n):(P0 s).1.ok n:=by
 obtain⟨L,Q,aA,X⟩:=s
 obtain⟨U,W,h3,J,I⟩:=h
 match X,J,I with
 |none,J,I=>exact⟨U,W,h3,J,I⟩
 |some 0,J,I=>exact⟨U,W,h3,λ_=>rfl,I⟩
 |some (k+1),J,I=>
  refine⟨U,W,h3,λY=>?_,λf Z=>?_⟩
  ·have:=J Y;simp at this
  ·have:=I (k+1) rfl
   simp[P0]at Z
   omega
theorem A5z(L:List (List Nat))(q:Nat×List Nat)(m:Nat):(A92 L q m).length=L.length:=by simp[A92]
theorem A1c(c:Nat->Nat)(Q:List (Nat×List Nat))(L:List (List Nat)):∀k,(A0m c Q L k).length=L.length
 |0=>rfl
 |k+1=>by rw[A0m,A5z,A1c c Q L k]
theorem A0Q:∀(Q:List (Nat×List Nat)) (L:List (List Nat)),(U9 L Q).length=L.length
 |[],_=>rfl
 |q::Q,L=>by
  show(U9 (L.set q.1 q.2) Q).length=_
  rw[A0Q Q];simp
theorem A4Q(L:List (List Nat))(Q:List (Nat×List Nat))(q:Nat×List Nat):U9 L (Q++[q])=(U9 L Q).set q.1 q.2:=by simp[U9]
theorem B4x{L:List (List Nat)}(h:∀r∈L,r.length=128)(i:Nat){x:List Nat}(U:x.length=128):∀r∈L.set i x,r.length=128:=λr J=>by
 rcases List.mem_or_eq_of_mem_set J with I|I
 ·exact h r I
 ·rw[I];exact U
theorem B7U{L:List (List Nat)}(h:∀r∈L,r.length=128){i:Nat}(hi:i<L.length):(L.getD i []).length=128:=by
 rw[List.getD_eq_getElem?_getD,List.getElem?_eq_getElem hi]
 exact h _ (List.getElem_mem hi)
theorem B7V{L:List (List Nat)}(h:∀r∈L,r.length=128){q:Nat×List Nat}(J:q.1<L.length)(I:q.2.length=128)(m:Nat):∀r∈A92 L q m,r.length=128:=by
 refine B4x h _ ?_
 have:=B7U h J
 rw[List.length_append,List.length_take,List.length_drop,this,I];omega
theorem B0W:∀(Q:List (Nat×List Nat)) (L:List (List Nat)),(∀r∈L,r.length=128)->(∀q∈Q,q.2.length=128)->∀r∈U9 L Q,r.length=128
 |[],_,h,_=>h
 |q::Q,L,h,hq=>B0W Q (L.set q.1 q.2) (B4x h _ (hq q (by simp))) (λx I=>hq x (by simp[I]))
theorem A6C{Q:List (Nat×List Nat)}{k:Nat}(I:k<Q.length):Q.getD k (0,[])∈Q:=by
 rw[List.getD_eq_getElem?_getD,List.getElem?_eq_getElem I]
 exact List.getElem_mem I
theorem A6D(c:Nat->Nat)(Q:List (Nat×List Nat))(L:List (List Nat))(h:∀r∈L,r.length=128)(J:∀q∈Q,q.1<L.length/\q.2.length=128):∀k,k<=Q.length->∀r∈A0m c Q L k,r.length=128
 |0,_=>h
 |k+1,hk=>by
  rw[A0m]
  have I:=J _ (A6C (show k<Q.length by omega))
  exact B7V (A6D c Q L h J k (by omega)) (by rw[A1c];exact I.1) I.2 _
theorem A6E(Q:List (Nat×List Nat))(L:List (List Nat))(h:∀r∈L,r.length=128)(J:∀q∈Q,q.1<L.length/\q.2.length=128):∀k,k<=Q.length->A0m (λ_=>128) Q L k=U9 L (Q.take k)
 |0,_=>by simp[A0m,U9]
 |k+1,hk=>by
  have I:k<Q.length:=by omega
  have U:=J _ (A6C I)
  have W:=B7U (A6D (λ_=>128) Q L h J k (by omega)) (i:=(Q.getD k (0,[])).1) (by rw[A1c];exact U.1)
  rw[A0m,List.take_succ_eq_append_getElem I,A4Q,<-A6E Q L h J k (by omega),A92,List.take_of_length_le (by omega),List.drop_of_length_le (by omega),List.append_nil]
  rw[List.getD_eq_getElem?_getD,List.getElem?_eq_getElem I];rfl
theorem B6d{s:DS}{n:Nat}(h:s.ok n)(i:Int)(b:List Nat):(L3 s i b).1.ok n:=by
 unfold L3
 split
 ·exact h
 ·rename_i U
  split
  ·have J:=A1s h
   refine⟨J.len,J.row,λq I=>?_,J.dd,J.fz⟩
   rcases List.mem_append.1 I with I|I
   ·exact h.at_ q I
   ·rw[List.mem_singleton]at I
    subst I
    have:=h.len
    exact⟨by show i.toNat<n;omega,by show b.length=128;omega⟩
  ·exact A1s h
theorem B6e{s:DS}{n:Nat}(h:s.ok n):(E0 s).1.ok n:=by
 unfold E0
 split
 ·have J:=A1s h
  exact⟨by show(U9 s.L s.Q).length=n;rw[A0Q,h.len],B0W _ _ h.row (λq I=>(h.at_ q I).2),λq I=>by simp at I,J.dd,J.fz⟩
 ·exact A1s h
theorem C04(n:Nat):(newS n).ok n:=⟨by simp[newS],λr U=>by rw[List.eq_of_mem_replicate U];simp,λq J=>by simp[newS]at J,λh=>by simp[newS]at h,λf I=>by simp[newS]at I⟩
def D4(q:Nat×List Nat):List Value:=.int .i64 (q.1:Int)::q.2.map u8
theorem P3{q:Nat×List Nat}(h:q.2.length=128):(D4 q).length=129:=by simp[D4,h]
theorem A93{α β:Type}(f:α->List β)(c:Nat):∀(l:List α),(∀x∈l,(f x).length=c)->∀(i j:Nat) (hi:i<l.length),j<c->(l.flatMap f)[i * c+j]? =(f l[i])[j]?
 |x::l,h,0,j,_,hj=>by
  rw[List.flatMap_cons,List.getElem?_append_left (by rw[h x (by simp)];omega)];simp
 |x::l,h,i+1,j,hi,hj=>by
  have I:=h x (by simp)
  have e:(i+1) * c+j=c+(i * c+j):=by rw[Nat.succ_mul];omega
  rw[List.flatMap_cons,List.getElem?_append_right (by rw[I];omega),e,I,show c+(i * c+j)-c=i * c+j by omega]
  exact A93 f c l (λy J=>h y (by simp[J])) i j (by simpa using hi) hj
theorem A50{α β:Type}(f:α->List β)(c:Nat):∀(l:List α),(∀x∈l,(f x).length=c)->(l.flatMap f).length=l.length * c
 |[],_=>by simp
 |x::l,h=>by
  rw[List.flatMap_cons,List.length_append,h x (by simp),A50 f c l (λy I=>h y (by simp[I])),List.length_cons,Nat.succ_mul];omega
end
section
open Go.RowKit
theorem P4(b:Nat){k:Nat}(I:k≠b):∀(J:List Value) (o:Nat) (w:World),(w.setCells b o J).heap[k]? =w.heap[k]?
 |[],_,_=>rfl
 |v::r,o,w=>by
  rw[World.setCells,P4 b I r]
  exact heap_setCell_other w ⟨b,o,none⟩ k v I
theorem B0.setCells{F F':Nat->Prop}{w:World}{g:Nat}:∀(I:List Value) (o:Nat) (w':World),B0 F w F' w'->(F g\/w.heap.size<=g)->B0 F w F' (w'.setCells g o I)
 |[],_,_,h,_=>h
 |v::r,o,w',h,hg=>by
  rw[World.setCells]
  exact B0.setCells r (o+1) _ (h.setCell (p:=⟨g,o,none⟩) hg v) hg
theorem C3.setCells{g:Nat}{t:TypeId}:∀(W:List Value) (o:Nat) (w:World) (cs:Array Value),C3 w g t cs->∃I,C3 (w.setCells g o W) g t I/\I.size=cs.size
 |[],_,_,cs,h=>⟨cs,h,rfl⟩
 |v::r,o,w,cs,h=>by
  rw[World.setCells]
  obtain⟨I,J,U⟩:=C3.setCells r (o+1) _ _ (h.set_ o v)
  exact⟨I,J,by rw[U];simp⟩
structure Rows (w:World) (g:Nat) (t:TypeId) (L:List (List Nat)):Prop where
 blk:∃cs,C3 w g t cs/\cs.size=L.length * 128
 row:∀i r,L[i]? =some r->r.length=128/\w.rangeAt g (i * 128) (r.map u8)
section
variable {w w':World} {g:Nat} {t:TypeId} {L:List (List Nat)}
theorem Rows.keep(h:Rows w g t L)(I:w'.heap[g]? =w.heap[g]?):Rows w' g t L:=by
 obtain⟨cs,U,W⟩:=h.blk
 refine⟨⟨cs,U.keep I,W⟩,λi r J=>⟨(h.row i r J).1,λj v hv=>?_⟩⟩
 rw[<-(h.row i r J).2 j v hv]
 exact World.cell?_of_block I
theorem Rows.there(h:Rows w g t L){i m:Nat}(hi:i<L.length)(U:m<=128):w.there g (i * 128) m:=λj J=>by
 obtain⟨cs,I,W⟩:=h.blk
 refine⟨?_,I.frozen _⟩
 rw[I.cell]
 have:i * 128+j<cs.size:=by
  have:(i+1) * 128<=L.length * 128:=Nat.mul_le_mul_right _ hi
  rw[Nat.succ_mul]at this
  omega
 rw[Array.getElem?_eq_getElem this];rfl
theorem Rows.put(h:Rows w g t L){i:Nat}(hi:i<L.length)(x:List Nat)(hx:x.length<=128):Rows (w.setCells g (i * 128) (x.map u8)) g t (L.set i (x++(L.getD i []).drop x.length)):=by
 obtain⟨cs,Z,hs⟩:=h.blk
 obtain⟨Y,aA,aB⟩:=C3.setCells (x.map u8) (i * 128) w cs Z
 have ht:=h.there hi hx
 refine⟨⟨Y,aA,by rw[aB,hs];simp⟩,λk r I=>?_⟩
 by_cases U:i=k
 ·subst U
  rw[List.getElem?_set_self hi]at I
  injection I with I
  have X:=h.row i _ (List.getElem?_eq_getElem hi)
  have e:L.getD i []=L[i]:=by rw[List.getD_eq_getElem?_getD,List.getElem?_eq_getElem hi];rfl
  rw[e]at I
  subst I
  refine⟨by rw[List.length_append,List.length_drop,X.1];omega,λj v hv=>?_⟩
  by_cases W:j<x.length
  ·rw[List.map_append,List.getElem?_append_left (by simpa using W)]at hv
   exact World.rangeAt_setCells_same w g (i * 128) (x.map u8) (by rw[List.length_map];exact ht) j v hv
  ·rw[List.map_append,List.getElem?_append_right (by simpa using Nat.le_of_not_lt W),List.length_map,List.map_drop,List.getElem?_drop,show x.length+(j-x.length)=j by omega]at hv
   rw[World.cell?_setCells_out g _ _ _ _ (λ_ _=>Or.inr (by simp;omega))]
   exact X.2 j v hv
 ·rw[List.getElem?_set_ne U]at I
  refine⟨(h.row k r I).1,World.rangeAt_setCells_apart (h.row k r I).2 _ _ _ (Or.inr ?_)⟩
  rw[List.length_map,List.length_map,(h.row k r I).1]
  rcases Nat.lt_or_gt_of_ne U with J|J
  ·right
   have:(i+1) * 128<=k * 128:=Nat.mul_le_mul_right _ J
   rw[Nat.succ_mul]at this
   omega
  ·left
   have:(k+1) * 128<=i * 128:=Nat.mul_le_mul_right _ J
   rw[Nat.succ_mul]at this
   omega
theorem Rows.putN(h:Rows w g t L){q:Nat×List Nat}(W:q.1<L.length)(J:q.2.length=128){m:Nat}(U:m<=128):Rows (w.setCells g (q.1 * 128) ((q.2.take m).map u8)) g t (A92 L q m):=by
 have I:=h.put W (q.2.take m) (by simp;omega)
 rw[List.length_take,J,Nat.min_eq_left U]at I
 exact I
theorem Rows.putAll(h:Rows w g t L){i:Nat}(hi:i<L.length)(x:List Nat)(J:x.length=128):Rows (w.setCells g (i * 128) (x.map u8)) g t (L.set i x):=by
 have I:=h.put hi x (by omega)
 have e:(L.getD i []).drop x.length=[]:=by
  apply List.drop_eq_nil_of_le
  rw[List.getD_eq_getElem?_getD,List.getElem?_eq_getElem hi,J]
  exact Nat.le_of_eq (h.row i _ (List.getElem?_eq_getElem hi)).1
 rw[e,List.append_nil]at I
 exact I
theorem Rows.at_(h:Rows w g t L){i:Nat}(hi:i<L.length):w.rangeAt g (i * 128) ((L.getD i []).map u8):=by
 rw[List.getD_eq_getElem?_getD,List.getElem?_eq_getElem hi]
 exact(h.row i _ (List.getElem?_eq_getElem hi)).2
end
theorem Sl.keepH{F:Nat->Prop}{w w':World}{e:TypeId}{J n:Nat}{v:Value}{U:List Value}(h:Sl w F e J v n U)(W:∀k,F k->w'.heap[k]? =w.heap[k]?) (hs:w.heap.size<=w'.heap.size):Sl w' F e J v n U:=
 ⟨J2 h.own λk I=>W k (h.inF k I),h.inF,λk I=>Nat.lt_of_lt_of_le (h.bd k I) hs⟩
theorem Sl.keepB{F:Nat->Prop}{w w':World}{e:TypeId}{I n:Nat}{v:Value}{J:List Value}(h:Sl w F e I v n J)(U:∀k,v.ownBlock=some k->w'.heap[k]? =w.heap[k]?) (hs:w.heap.size<=w'.heap.size):Sl w' F e I v n J:=
 ⟨J2 h.own U,h.inF,λk W=>Nat.lt_of_lt_of_le (h.bd k W) hs⟩
structure DkB (w:World) (F:Nat->Prop) (d gl gr:Nat) (vQ:Value) (n:Nat) (L R:List (List Nat)) (Q:List (Nat×List Nat)):Prop where
 lo:1<=n
 hi:n<=4096
 lenL:L.length=n
 lenR:R.length=n
 qs:∀q∈Q,q.1<n/\q.2.length=128
 lasts:Rows w gl 129 L
 reads:Rows w gr 129 R
 waits:Sl w F 131 129 vQ Q.length (Q.flatMap D4)
 ne:gl≠gr
 inD:F d
 inL:F gl
 inR:F gr
 head:∃cs,C3 w d 99 cs
def C4i(gl gr:Nat)(vQ:Value)(n:Nat)(s:DS):Array Value:= #[.slice (some ⟨gl,0,none⟩) n n,.slice (some ⟨gr,0,none⟩) n n,vQ,.bool s.dead,.bool s.fuse.isSome,.int .i64 ((s.fuse.getD 0:Nat):Int)]
structure DkR (w:World) (F:Nat->Prop) (d gl gr:Nat) (vQ:Value) (n:Nat) (R:List (List Nat)) (s:DS):Prop where
 blk:C3 w d 99 (C4i gl gr vQ n s)
 b:DkB w F d gl gr vQ n s.L R s.Q
def Dk(w:World)(F:Nat->Prop)(d n:Nat)(s:DS):Prop:=s.ok n/\∃gl gr vQ,DkR w F d gl gr vQ n (U9 s.L s.Q) s
section
variable {w w':World} {F F' G:Nat->Prop} {d gl gr n:Nat} {vQ:Value} {L R:List (List Nat)} {Q:List (Nat×List Nat)} {s:DS}
theorem DkB.bd(h:DkB w F d gl gr vQ n L R Q):Bd F w:=h.waits.bd
theorem DkB.keep(h:DkB w F d gl gr vQ n L R Q)(I:∀k,F k->w'.heap[k]? =w.heap[k]?) (hs:w.heap.size<=w'.heap.size):DkB w' F d gl gr vQ n L R Q:=by
 obtain⟨cs,J⟩:=h.head
 exact⟨h.lo,h.hi,h.lenL,h.lenR,h.qs,h.lasts.keep (I _ h.inL),h.reads.keep (I _ h.inR),h.waits.keepH I hs,h.ne,h.inD,h.inL,h.inR,⟨cs,J.keep (I _ h.inD)⟩⟩
theorem DkR.keep(h:DkR w F d gl gr vQ n R s)(I:∀k,F k->w'.heap[k]? =w.heap[k]?) (hs:w.heap.size<=w'.heap.size):DkR w' F d gl gr vQ n R s:=⟨h.blk.keep (I _ h.b.inD),h.b.keep I hs⟩
theorem DkR.far(h:DkR w F d gl gr vQ n R s)(I:B0 G w F' w')(J:Sep G F):DkR w' F d gl gr vQ n R s:=h.keep (I.far J h.b.bd) I.size
theorem Dk.bd(h:Dk w F d n s):Bd F w:=by
 obtain⟨_,_,_,_,h⟩:=h
 exact h.b.bd
theorem Dk.far(h:Dk w F d n s)(I:B0 G w F' w')(U:Sep G F):Dk w' F d n s:=by
 obtain⟨J,gl,gr,vQ,h⟩:=h
 exact⟨J,gl,gr,vQ,h.far I U⟩
theorem Dk.drewN(h:Dk w F d n s)(k:Nat):Dk (w.drewN k) F d n s:=by
 obtain⟨I,gl,gr,vQ,h⟩:=h
 exact⟨I,gl,gr,vQ,h.keep (λ_ _=>rfl) (Nat.le_refl _)⟩
theorem DkB.gl_ne(h:DkB w F d gl gr vQ n L R Q):gl≠d:=by
 obtain⟨cs,I⟩:=h.head
 obtain⟨U,J,_⟩:=h.lasts.blk
 exact J.ne_ I (by decide)
theorem DkB.gr_ne(h:DkB w F d gl gr vQ n L R Q):gr≠d:=by
 obtain⟨cs,I⟩:=h.head
 obtain⟨U,J,_⟩:=h.reads.blk
 exact J.ne_ I (by decide)
theorem DkB.set_(h:DkB w F d gl gr vQ n L R Q)(i:Nat)(u:Value):DkB (w.setCell ⟨d,i,none⟩ u) F d gl gr vQ n L R Q:=by
 obtain⟨cs,U⟩:=h.head
 have I:∀k,k≠d->(w.setCell ⟨d,i,none⟩ u).heap[k]? =w.heap[k]? :=λk J=>heap_setCell_other w _ k u J
 have W:w.heap.size<=(w.setCell ⟨d,i,none⟩ u).heap.size:=by simp[World.setCell]
 exact⟨h.lo,h.hi,h.lenL,h.lenR,h.qs,h.lasts.keep (I _ h.gl_ne),h.reads.keep (I _ h.gr_ne),h.waits.keepB (λk J=>I k (λe=>P5 h.waits.own U (by decide) (by rw[J,e]))) W,h.ne,h.inD,h.inL,h.inR,⟨_,U.set_ i u⟩⟩
theorem DkB.setL(h:DkB w F d gl gr vQ n L R Q)(o:Nat)(I:List Value){J:List (List Nat)}(Z:J.length=n)(hr:Rows (w.setCells gl o I) gl 129 J):DkB (w.setCells gl o I) F d gl gr vQ n J R Q:=by
 obtain⟨cs,X⟩:=h.head
 obtain⟨cl,Y,_⟩:=h.lasts.blk
 have U:∀k,k≠gl->(w.setCells gl o I).heap[k]? =w.heap[k]? :=λk W=>P4 gl W I o w
 have hz:=(B0.setCells I o w (B0.refl F w) (.inl h.inL)).size
 exact⟨h.lo,h.hi,Z,h.lenR,h.qs,hr,h.reads.keep (U _ h.ne.symm),h.waits.keepB (λk W=>U k (λe=>P5 h.waits.own Y (by decide) (by rw[W,e]))) hz,h.ne,h.inD,h.inL,h.inR,⟨cs,X.keep (U _ h.gl_ne.symm)⟩⟩
theorem DkB.setR(h:DkB w F d gl gr vQ n L R Q)(o:Nat)(I:List Value){R':List (List Nat)}(Y:R'.length=n)(Z:Rows (w.setCells gr o I) gr 129 R'):DkB (w.setCells gr o I) F d gl gr vQ n L R' Q:=by
 obtain⟨cs,W⟩:=h.head
 obtain⟨cl,X,_⟩:=h.reads.blk
 have J:∀k,k≠gr->(w.setCells gr o I).heap[k]? =w.heap[k]? :=λk U=>P4 gr U I o w
 have hz:=(B0.setCells I o w (B0.refl F w) (.inl h.inR)).size
 exact⟨h.lo,h.hi,h.lenL,Y,h.qs,h.lasts.keep (J _ h.ne),Z,h.waits.keepB (λk U=>J k (λe=>P5 h.waits.own X (by decide) (by rw[U,e]))) hz,h.ne,h.inD,h.inL,h.inR,⟨cs,W.keep (J _ h.gr_ne.symm)⟩⟩
theorem DkR.c0(h:DkR w F d gl gr vQ n R s):w.cell? ⟨d,0,none⟩=some (.slice (some ⟨gl,0,none⟩) n n):=h.blk.cell 0
theorem DkR.c1(h:DkR w F d gl gr vQ n R s):w.cell? ⟨d,1,none⟩=some (.slice (some ⟨gr,0,none⟩) n n):=h.blk.cell 1
theorem DkR.c2(h:DkR w F d gl gr vQ n R s):w.cell? ⟨d,2,none⟩=some vQ:=h.blk.cell 2
theorem DkR.c3(h:DkR w F d gl gr vQ n R s):w.cell? ⟨d,3,none⟩=some (.bool s.dead):=h.blk.cell 3
theorem DkR.c4(h:DkR w F d gl gr vQ n R s):w.cell? ⟨d,4,none⟩=some (.bool s.fuse.isSome):=h.blk.cell 4
theorem DkR.c5(h:DkR w F d gl gr vQ n R s):w.cell? ⟨d,5,none⟩=some (.int .i64 ((s.fuse.getD 0:Nat):Int)):=h.blk.cell 5
end
theorem A1F(d gl n:Nat)(w:World)(I:w.cell? ⟨d,0,none⟩=some (.slice (some ⟨gl,0,none⟩) n n)):
 Calls Tryz.prog 58 #[.pointer (some ⟨d,0,none⟩)] w λe w'=>e= .returned (.bool true)/\w=w':=by
 go_enter Tryz.func58,Tryz.ntmps58
 go_wp2
 go_ret
 exact⟨rfl,rfl⟩
theorem A82(d gl n:Nat)(i:Int)(w:World)(U:w.cell? ⟨d,0,none⟩=some (.slice (some ⟨gl,0,none⟩) n n)):
 Calls Tryz.prog 128 #[.pointer (some ⟨d,0,none⟩),.int .i64 i] w λe w'=>e= .returned (.bool (decide (0<=i/\i<(n:Int))))/\w=w':=by
 by_cases I:0<=i
 ·by_cases J:i<(n:Int)
  ·rw[decide_eq_true (show 0<=i/\i<(n:Int)from⟨I,J⟩)]
   go_enter Tryz.func128,Tryz.ntmps128
   go_wp2
   go_ret
   exact⟨rfl,rfl⟩
  ·rw[decide_eq_false (λh=>J h.2)]
   go_enter Tryz.func128,Tryz.ntmps128
   go_wp2
   go_ret
   exact⟨rfl,rfl⟩
 ·rw[decide_eq_false (λh=>I h.1)]
  go_enter Tryz.func128,Tryz.ntmps128
  go_wp2
  go_ret
  exact⟨rfl,rfl⟩
theorem C28(d gl n:Nat)(w:World)(I:w.cell? ⟨d,0,none⟩=some (.slice (some ⟨gl,0,none⟩) n n)):
 Calls Tryz.prog 41 #[.pointer (some ⟨d,0,none⟩)] w λe w'=>e= .returned (.int .i64 (n:Int))/\w=w':=by
 go_enter Tryz.func41,Tryz.ntmps41
 go_wp2_with (first
  |(go_at_call 58;refine(A1F _ _ _ _ I).mono ?_;rintro e J ⟨rfl,rfl⟩)
  |fail)
 go_ret
 exact⟨rfl,rfl⟩
theorem B6f(d:Nat)(w:World)(c3:w.cell? ⟨d,3,none⟩=some (.bool false))(c4:w.cell? ⟨d,4,none⟩=some (.bool false)):
 Calls Tryz.prog 191 #[.pointer (some ⟨d,0,none⟩)] w λe w'=>e= .returned (.int .i64 0)/\w=w':=by
 go_enter Tryz.func191,Tryz.ntmps191
 go_wp2
 go_ret
 exact⟨rfl,rfl⟩
theorem B7W(d:Nat)(I:Bool)(w:World)(c3:w.cell? ⟨d,3,none⟩=some (.bool I))(c4:w.cell? ⟨d,4,none⟩=some (.bool true))(c5:w.cell? ⟨d,5,none⟩=some (.int .i64 0))(J:w.frozen? ⟨d,3,none⟩=false):
 Calls Tryz.prog 191 #[.pointer (some ⟨d,0,none⟩)] w λe w'=>e= .returned (.int .i64 7)/\w'=w.setCell ⟨d,3,none⟩ (.bool true):=by
 go_enter Tryz.func191,Tryz.ntmps191
 go_wp2
 go_ret
 exact⟨rfl,rfl⟩
theorem B6g(d:Nat)(K k:Int)(w:World)(c3:w.cell? ⟨d,3,none⟩=some (.bool false))(c4:w.cell? ⟨d,4,none⟩=some (.bool true))(c5:w.cell? ⟨d,5,none⟩=some (.int .i64 K))(I:w.frozen? ⟨d,5,none⟩=false)(hK:(K==0)=false)
 (J:IntKind.i64.wrap (K-1)=k):
 Calls Tryz.prog 191 #[.pointer (some ⟨d,0,none⟩)] w λe w'=>e= .returned (.int .i64 0)/\w'=w.setCell ⟨d,5,none⟩ (.int .i64 k):=by
 go_enter Tryz.func191,Tryz.ntmps191
 go_wp2
 go_ret
 exact⟨rfl,rfl⟩
theorem A94(d gl gr n:Nat)(vQ:Value)(F:Nat->Prop)(R:List (List Nat))(s:DS)(w:World)(h:DkR w F d gl gr vQ n R s)(W:s.ok n):
 Calls Tryz.prog 191 #[.pointer (some ⟨d,0,none⟩)] w λe w'=>e= .returned (.int .i64 (if(P0 s).2 then 0 else 7))/\DkR w' F d gl gr vQ n R (P0 s).1/\B0 F w F w':=by
 obtain⟨L,Q,I,X⟩:=s
 have U:=W.dd
 have Y:=W.fz
 rcases X with _|_|k
 ·have J:I=false:=by
   cases I with
   |false=>rfl
   |true=>have:=U rfl;simp at this
  subst J
  refine(B6f d w h.c3 h.c4).mono ?_
  rintro e w' ⟨rfl,rfl⟩
  exact⟨rfl,h,B0.refl _ _⟩
 ·refine(B7W d I w h.c3 h.c4 h.c5 (h.blk.frozen 3)).mono ?_
  rintro e w' ⟨rfl,rfl⟩
  exact⟨rfl,⟨h.blk.set_ 3 _,h.b.set_ 3 _⟩,(B0.refl F w).setCell (.inl h.b.inD) _⟩
 ·have J:I=false:=by
   cases I with
   |false=>rfl
   |true=>have:=U rfl;simp at this
  subst J
  have Z:=Y _ rfl
  refine(B6g d _ (k:Int) w h.c3 h.c4 h.c5 (h.blk.frozen 5) (by simp;omega) (by simp only[Option.getD_some];rw[IntKind.wrap_i64];omega)).mono ?_
  rintro e w' ⟨rfl,rfl⟩
  exact⟨rfl,⟨h.blk.set_ 5 _,h.b.set_ 5 _⟩,(B0.refl F w).setCell (.inl h.b.inD) _⟩
end
section
open Go.RowKit
theorem A5M{P:Program}{w:World}{ops:Array Oper}{o:Oper}{a:Act}{K:Act->World->Prop}{Q:Exit->Act->World->Prop}{E:Prop}(aC:o.guard=none)(d s:Operand)(W sT:TypeId)
 (ho:o.op= .call { callee:=.builtin .copy,args:= #[d,s],argTypes:= #[W,sT] }) (X:TypeId) (hu:P.underlying W=some (.slice X)) (aF:(P.info? X).map (·.size)=some 1)
 (b I U aA Z aB:Nat) (J:Addr) (hd:a.eval d= .slice (some ⟨b,I,none⟩) U aA) (hs:a.eval s= .slice (some J) Z aB)
 (cs:List Value) (hn:cs.length=Nat.min Z U) (aE:∀j v,cs[j]? =some v->w.cell? (J.add j)=some v) (ht:w.there b I cs.length) (h1:∀v∈cs,v.oneCell'=true)
 (h:K (a.put o.dst (goInt cs.length)) (w.setCells b I cs)):
 if Region.wanted o (yielded ops a.tmps)=true then Oper.wp P o a w K Q else E:=by
 have hw:Region.wanted o (yielded ops a.tmps)=true:=by simp[Region.wanted,aC]
 rw[if_pos hw]
 have aD:=run_copy_cells (P:=P) w W sT o.type X b I U aA J Z aB cs hu aF hn aE (λj Y=>(ht j Y).1) (λj Y=>(ht j Y).2) h1
 unfold Oper.wp
 simp[execOp,ho,resolve,invoke,builtin,hd,hs,aD,Result.andThen]
 exact h
theorem C05:(Tryz.prog.info? 5).map (·.size)=some 1:=by kernel_rfl
theorem C4j(d gl gr n:Nat)(vQ:Value)(F:Nat->Prop)(R:List (List Nat))(s:DS)(q:Nat×List Nat)(m:Nat)(w:World)(h:DkR w F d gl gr vQ n R s)(hq:q.1<n)(hl:q.2.length=128)(hm:m<=128):
 Calls Tryz.prog 59 #[.pointer (some ⟨d,0,none⟩),.agg (D4 q).toArray,.int .i64 (m:Int)] w λe w'=>e= .returned (.tuple #[])/\DkR w' F d gl gr vQ n R { s with L:=A92 s.L q m }/\B0 F w F w':=by
 obtain⟨W,J⟩:∃W,W=w.alloc (.cells (D4 q).toArray 131):=⟨_,rfl⟩
 have Y:C3 W.drew w.heap.size 131 (D4 q).toArray:=by rw[J];exact C3.new _ _ _
 have hA:B0 F w F W.drew:=by rw[J];exact((B0.refl F w).alloc _).drew
 have I:DkR W.drew F d gl gr vQ n R s:=h.keep (λk hk=>by rw[J];exact Below.heap_alloc _ _ _ (h.b.bd k hk)) hA.size
 have c0:=I.c0
 have Z:W.drew.cell? ⟨w.heap.size,0,none⟩=some (.int .i64 (q.1:Int)):=Y.cell 0
 have aF:∀j v,((q.2.take m).map u8)[j]? =some v->W.drew.cell? ((⟨w.heap.size,1,none⟩:Addr).add j)=some v:=by
  intro j v hv
  have hj:j<m:=by
   have:=(List.getElem?_eq_some_iff.1 hv).1
   simp at this;omega
  rw[add_none,Y.cell,<-hv]
  simp only[D4,List.getElem?_toArray]
  rw[show 1+j=j+1 by omega,List.getElem?_cons_succ,List.map_take,List.getElem?_take,if_pos hj]
 have ht:W.drew.there gl (q.1 * 128) ((q.2.take m).map u8).length:=I.b.lasts.there (by rw[I.b.lenL];exact hq) (by simp;omega)
 have aE:((q.2.take m).map u8).length=m:=by simp;omega
 have aG:(0:Int)<=(q.1:Int):=by omega
 have aH:(q.1:Int)<(n:Int):=by omega
 have aI:(0:Int)<=(m:Int):=by omega
 have aJ:(m:Int)<=128:=by omega
 have aA:DkR (W.drew.setCells gl (q.1 * 128) ((q.2.take m).map u8)) F d gl gr vQ n R { s with L:=A92 s.L q m }/\B0 F w F (W.drew.setCells gl (q.1 * 128) ((q.2.take m).map u8)):=
  ⟨⟨I.blk.keep (P4 _ I.b.gl_ne.symm _ _ _),I.b.setL _ _ (by rw[A5z,I.b.lenL]) (I.b.lasts.putN (by rw[I.b.lenL];exact hq) hl hm)⟩,B0.setCells _ _ _ hA (.inl I.b.inL)⟩
 have U:(W.drew.setCells gl (q.1 * 128) ((q.2.take m).map u8)).cell? ⟨w.heap.size,0,none⟩=some (.int .i64 (q.1:Int)):=
  (Y.keep (P4 _ (by have:=h.b.bd gl h.b.inL;omega) _ _ _)).cell 0
 have c1:=aA.1.c0
 have HS:=C6x aF
 have HT:=C6x ht
 have HL:=C6x aE
 have HF:=C6x aA
 obtain⟨A,aC⟩:∃A,A=(D4 q).toArray:=⟨_,rfl⟩
 obtain⟨X,hX⟩:∃X,X=(q.2.take m).map u8:=⟨_,rfl⟩
 have H1:Hid (∀v∈X,v.oneCell'=true):=by rw[hX];exact T5 _
 rw[<-hX]at HS HT HL HF c1 U
 obtain⟨aB,aD⟩:∃x,x=q.1:=⟨_,rfl⟩
 rw[<-aD]at HT HF Z aG aH U c1
 obtain⟨z,hz⟩:∃z,z=w.heap.size:=⟨_,rfl⟩
 rw[<-hz]at HS Z U
 rw[<-aC]at J⊢
 have HW:=C6x J
 have HZ:=C6x hz
 have C1:=C6x c1
 have K1:=C6x U
 clear Y hA I aF ht aE aA hX aC h J hz aD c1 U
 go_enter Tryz.func59,Tryz.ntmps59
 go_wp2_with fail
 rw[<-HW.out,<-HZ.out]
 refine D6 (S:=(λw'=>w'.cell? ⟨d,0,none⟩=some (.slice (some ⟨gl,0,none⟩) n n)/\w'.cell? ⟨z,0,none⟩=some (.int .i64 (aB:Int)))) (by first|exact⟨c0,Z⟩|exact⟨C1.out,K1.out⟩) (λhH=>?_)
 refine C62 0 rfl ?_
 refine C62 1 rfl ?_
 refine C62 2 rfl ?_
 refine C62 3 rfl ?_
 refine C62 4 rfl ?_
 refine C62 5 rfl ?_
 refine C62 6 rfl ?_
 refine C62 7 rfl ?_
 refine C62 8 rfl ?_
 refine C62 9 rfl ?_
 refine C62 10 rfl ?_
 refine C62 11 rfl ?_
 refine C6z 12 rfl (λK hK=>?_)
 refine A5M rfl (.tmp 14) (.tmp 17) 54 54 rfl 5 Tryz.underlying54 C05 gl (aB * 128) m 128 m 128 ⟨z,1,none⟩ rfl rfl X (by rw[HL.out];exact(Nat.min_self m).symm) HS.out HT.out H1.out ?_
 refine C60 hK (by first|exact⟨c0,Z⟩|exact⟨C1.out,K1.out⟩) ?_
 clear hK K hH
 intro hH
 try simp only[Act.put,sA,sB,sC]
 refine wpAnyH_done (by kernel_rfl) ?_ _
 go_wp2
 go_end0
 exact⟨rfl,HF.out⟩
end
end Go.Proofs.YtbefmjiclpobjaaGreat
