import Derived.Test.YtbefmjiclpobjaaGreatMj13
import Derived.Test.YtbefmjiclpobjaaGreatMj12
import Derived.Test.YtbefmjiclpobjaaGreatMj03
import Derived.RangeFuncFrom
import Derived.RangeFuncCalls
import Derived.RangeFuncLeaves
import Derived.RangeFuncBox
import Derived.Shelf.Abstract
import Derived.OwnWalkIn
import Derived.TacticsInMore
import Derived.LoopNIn
import Derived.LoopIn
import Derived.Maps.OwnIn
namespace Go.Proofs.YtbefmjiclpobjaaGreat
set_option maxHeartbeats 6400000
set_option maxRecDepth 100000
section
open Go.ChangeShapes Go.WideShapes Go.ChangeAt Go.RowKit
theorem A5e:(Tryz.prog.info? 74).map (λi=>(i.zero,i.size,i.bytes))=some (some (.agg #[.string ⟨#[]⟩,.int .i64 0,.int .i64 0,.int .i64 0]),4,40):=by kernel_rfl
structure EnO (W:World) (l:List En) (v:Value) (w:World):Prop where
 ex:∃F,Sl w F 74 4 v l.length (ecs l)/\B0 B5 W F w
 sz:∀e∈l,e.s.size<=maxLen
section
variable {W w w':World} {l:List En} {v:Value}
theorem EnO.nil(W:World):EnO W [] (.slice none 0 0) W:=⟨⟨B5,Sl.nil _ _ _,B0.refl _ _⟩,λ_ h=>by simp at h⟩
theorem EnO.adv(h:EnO W l v w):B0 B5 W B5 w:=by
 obtain⟨F,_,I⟩:=h.ex
 exact I.sub (λ_ h=>h.elim)
theorem EnO.step{F':Nat->Prop}(h:EnO W l v w)(I:B0 B5 w F' w'):EnO W l v w':=by
 obtain⟨F,J,U⟩:=h.ex
 exact⟨⟨F,J.far I (λ_ h _=>h),U.over I⟩,h.sz⟩
theorem EnO.form(h:EnO W l v w):∃A c,v= .slice A l.length c:=by
 obtain⟨F,I,_⟩:=h.ex
 obtain⟨A,c,e,_⟩:=I.form0
 exact⟨A,c,e⟩
theorem EnO.rd(h:EnO W l v w):M0 w v l:=by
 obtain⟨F,I,_⟩:=h.ex
 exact⟨I.rd,h.sz⟩
theorem EnO.more{m:List En}(h:EnO W l v w)(hm:∀e∈m,e.s.size<=maxLen):w.ownsRow 0 74 4 v l.length (ecs l)/\∀(J:World) I X,B0 B5 w B5 J->X.ownsRow 0 74 4 I (l.length+m.length) (ecs l++ecs m)->J.grownBy X v.ownBlock->(I.ownBlock=v.ownBlock\/I.ownBlock=some J.heap.size)->EnO W (l++m) I X:=by
 obtain⟨F,Y,h2⟩:=h.ex
 refine⟨Y.own,λJ I X h0 aA hg aD=>?_⟩
 have aB:=Y.far h0 (λ_ h _=>h)
 have aC:∀j,(F j\/I.ownBlock=some j)->F j\/J.heap.size<=j:=by
  rintro j (h|h)
  ·exact .inl h
  ·rcases aD with e|e
   ·exact .inl (Y.inF j (by rw[<-e];exact h))
   ·rw[e]at h;injection h with h;right;omega
 have hA:B0 F J (λj=>F j\/I.ownBlock=some j) X:=by
  have U:=(B0.refl F J).grown hg (λj hj=>.inl (Y.inF j hj))
  exact⟨U.os,U.tape,U.output,U.size,U.block,aC⟩
 refine⟨⟨_,⟨by rw[List.length_append,A3E];exact aA,λj hj=>.inr hj,?_⟩,(h2.over h0).trans hA⟩,λe he=>?_⟩
 ·rintro j (h|h)
  ·exact Nat.lt_of_lt_of_le (aB.bd j h) hA.size
  ·exact(aA.lt j h).2
 ·rcases List.mem_append.1 he with Z|Z
  ·exact h.sz e Z
  ·exact hm e Z
end
theorem A3p{w:World}{ty:TypeId}{v aB:Value}{n m:Nat}{U I:List Value}(X:w.ownsRow 0 74 4 v n U)(hr:Rd w 4 aB m I)(h1:∀u∈I,u.oneCell'=true)(hn:n+m<=1000000):
 ∃J w',(Builtin.append_ #[66,66] ty #[v,aB]).run Tryz.prog w= .ok J w'/\w'.ownsRow 0 74 4 J (n+m) (U++I)/\w.grownBy w' v.ownBlock/\(J.ownBlock=v.ownBlock\/J.ownBlock=some w.heap.size):=by
 obtain⟨i0,hi,aE,aF,aG⟩:=info_parts A5e
 obtain⟨A,c,rfl,aI,_,aA,hA,hc⟩:=hr
 rcases A with _|Y
 ·obtain rfl:c=0:=hA rfl
  obtain rfl:m=0:=by omega
  obtain rfl:I=[]:=List.eq_nil_of_length_eq_zero (by simpa using aA)
  exact⟨v,w,run_append_owned_none (P:=Tryz.prog) w 0 66 ty 74 i0 4 Tryz.underlying66 hi v n U X,by simpa using X,World.grownBy.refl _ _,.inl rfl⟩
 ·have aC:∀j u,I[j]? =some u->w.cell? (Y.add j)=some u:=by
   intro j u Z
   have hj:j<I.length:=(List.getElem?_eq_some_iff.1 Z).1
   obtain⟨aH,e,_,h⟩:=hc (by omega)
   have e:=Option.some.inj e
   subst e
   exact h j u Z
  obtain⟨J,w',aD,h2,h3,_,h5⟩:=run_append_own_at (P:=Tryz.prog) w 0 66 ty 74 i0 _ 4 40 Tryz.underlying66 hi aE aF aG rfl (by decide) v n U X Y m c I aA aC h1 (by unfold maxLen;omega) (by omega) (Nat.zero_le _)
  exact⟨J,w',aD,h2,h3,h5⟩
theorem R0{w:World}{ops:Array Oper}{rest:List Oper}{o:Oper}{a:Act}{Q:Exit->Act->World->Prop}(aA:o.guard=none)(s x:Operand)
 (ho:o.op= .call { callee:=.builtin .append,args:= #[s,x],argTypes:= #[66,66] })
 {v U:Value} {n m:Nat} {X J:List Value} (hs:a.eval s=v) (hx:a.eval x=U) (aB:w.ownsRow 0 74 4 v n X) (hr:Rd w 4 U m J) (Y:∀u∈J,u.oneCell'=true) (hn:n+m<=1000000)
 (h:∀I w',w'.ownsRow 0 74 4 I (n+m) (X++J)->w.grownBy w' v.ownBlock->(I.ownBlock=v.ownBlock\/I.ownBlock=some w.heap.size)->wpList Tryz.prog ops Q rest (a.put o.dst I) w'):wpList Tryz.prog ops Q (o::rest) a w:=by
 refine wpList_plain aA λK hK=>?_
 obtain⟨I,w',aC,Z,h3,h4⟩:=A3p (ty:=o.type) aB hr Y hn
 unfold Oper.wp execOp
 simp only[ho,resolve,invoke,builtin,Sem.run_bind,Sem.run_pure,Result.andThen_ok,List.map_toArray,List.map_cons,List.map_nil,hs,hx,aC]
 exact hK _ _ (h I w' Z h3 h4)
theorem B8K(w:World)(e:En):Rd (w.alloc (.cells (ea e) 74)) 4 (.slice (some ⟨w.heap.size,0,none⟩) 1 1) 1 (ec e):=
 ⟨_,_,rfl,Nat.le_refl _,by decide,rfl,λx=>(by cases x),λ_=>⟨_,rfl,by simp,λj u I=>by
  rw[add_none,Nat.zero_add,(C3.new w 74 (ea e)).cell,<-Array.getElem?_toList];exact I⟩⟩
theorem A7e(e:En):ecs [e]=ec e:=by simp[ecs]
theorem B8L(V k n:Nat):A3c ((List.range n).map λj=>C4 128 V (172 * k+44+8 * j) 8)=rdS V k n:=by
 apply A0i
 simp[A3c,strOfNums,rdS,A1K,B3h,List.map_map,Function.comp]
structure RdQ (W:World) (y u g b V k:Nat) (F:Nat->Prop) (E:En) (j:Nat) (w:World):Prop where
 rs:RSt w F b 128 V (172 * k+44+8 * j)
 bd:Bd F w
 bu:C3 w u 74 (ea E)
 by_:C3 w y 74 (ea ⟨⟨#[]⟩,0,0,0⟩)
 bg:C3 w g 288 (a16 λi=>if i<j then C4 128 V (172 * k+44+8 * i) 8 else 0)
 ad:B0 F W F w
 ne:¬F u/\¬F y/\¬F g/\u≠y/\u≠g/\y≠g
 new:W.heap.size<=u/\W.heap.size<=y/\W.heap.size<=g
theorem C0X(f:Nat->Nat)(j x:Nat)(g:Nat->Nat)(X:g j=x)(Y:∀i,i<16->i≠j->g i=f i):(a16 f).setIfInBounds j (u8 x)=a16 g:=by
 apply Array.ext (by simp[A2s])
 intro i aA U
 have hi:i<16:=by simpa[A2s]using U
 have I:=A2r g i hi
 rw[Array.getElem?_eq_getElem U]at I
 rw[Option.some.inj I]
 rw[Array.getElem_setIfInBounds]
 split
 ·rename_i h;subst h;rw[X]
 ·rename_i h
  have J:=A2r f i hi
  have Z:i<(a16 f).size:=hi
  rw[Array.getElem?_eq_getElem Z]at J
  rw[Y i hi (λe=>h e.symm)]
  exact Option.some.inj J
 ·exact hi
theorem RdQ.get{W w w':World}{y u g b V k j:Nat}{F:Nat->Prop}{E:En}(h:RdQ W y u g b V k F E j w)(hr:RSt w' F b 128 V (172 * k+44+8 * j+8))(J:B0 F w F w')(X:Bd F w'):RdQ W y u g b V k F E (j+1) (w'.setCell ⟨g,j,none⟩ (u8 (C4 128 V (172 * k+44+8 * j) 8))):=by
 have I:=h.ne
 have aA:=h.bu.keep (J.block u h.bu.lt I.1)
 have aB:=h.by_.keep (J.block y h.by_.lt I.2.1)
 have Z:=h.bg.keep (J.block g h.bg.lt I.2.2.1)
 have Y:=Z.set_ j (u8 (C4 128 V (172 * k+44+8 * j) 8))
 rw[C0X _ j _ (λi=>if i<j+1 then C4 128 V (172 * k+44+8 * i) 8 else 0) (by rw[if_pos (by omega)]) (λi _ aC=>by
  by_cases U:i<j
  ·rw[if_pos U,if_pos (by omega)]
  ·rw[if_neg U,if_neg (by omega)])]at Y
 refine⟨?_,λq hq=>by simpa[World.setCell]using X q hq,aA.far (p:=⟨g,j,none⟩) I.2.2.2.2.1 _,aB.far (p:=⟨g,j,none⟩) I.2.2.2.2.2 _,Y,(h.ad.trans J).setCell (p:=⟨g,j,none⟩) (.inr h.new.2.2) _,I,h.new⟩
 rw[show 172 * k+44+8 * (j+1)=172 * k+44+8 * j+8 by omega]
 exact hr.setCell X (p:=⟨g,j,none⟩) I.2.2.1 _
theorem A4t(q V a n:Nat)(I:n<=62):wrap64 ((C4 q V a n:Nat):Int)=((C4 q V a n:Nat):Int):=by
 have h:=Q7 q V a n
 have J:2^n<=2^62:=Nat.pow_le_pow_right (by decide) I
 unfold wrap64;omega
def RdL(W:World)(y u g b V k:Nat)(E:En)(F:Nat->Prop)(t:Value)(wr:World):Prop:=∃j:Nat,t= .int .i64 (j:Int)/\j<=16/\RdQ W y u g b V k F E j wr
theorem C8:(Tryz.prog.info? 74).map (·.size)=some 4:=by kernel_rfl
theorem R4(e:En):(ea e).all (·.oneCell')=true:=by simp[ea,Value.oneCell']
theorem C3.four{w:World}{y:Nat}{t:TypeId}{C:Array Value}(h:C3 w y t C)(I:C.size=4):w.there y 0 4:=λj J=>⟨by rw[h.cell (0+j),Nat.zero_add,Array.getElem?_eq_getElem (by omega)];rfl,h.frozen _⟩
theorem B63(b V k:Nat)(F:Nat->Prop)(w:World)(hr:RSt w F b 128 V (172 * k))(hb:Bd F w)(hk:k<5):
 Calls Tryz.prog 199 #[.pointer (some ⟨b,0,none⟩)] w λx w'=>x= .returned (.agg (ea (rdE V k (min (rdN V k) 16))))/\RSt w' F b 128 V (172 * (k+1))/\B0 F w F w'/\Bd F w':=by
 obtain⟨y,hy⟩:∃y,y=w.heap.size:=⟨_,rfl⟩
 obtain⟨V0,aC⟩:∃V,V=w.alloc (.cells (ea ⟨⟨#[]⟩,0,0,0⟩) 74):=⟨_,rfl⟩
 have HY:=C6x (show C3 V0 y 74 (ea ⟨⟨#[]⟩,0,0,0⟩)by rw[aC,hy];exact C3.new _ _ _)
 have bC:=C6x (show RSt V0 F b 128 V (172 * k)by rw[aC];exact hr.alloc hb _)
 have bZ:=C6x (show Bd F V0 by rw[aC];exactλq J=>Nat.lt_of_lt_of_le (hb q J) (by simp))
 have bX:=C6x (show B0 F w F V0 by rw[aC];exact(B0.refl F w).alloc _)
 have aB:=C6x (show¬F y fromλh=>by have:=hb y h;omega)
 have bB:=C6x (show w.heap.size<=y by omega)
 have bI:=C6x aC
 have cJ:=C6x hy
 have aE:=C6x hk
 clear aC hy hr hb hk
 simp only[ea]at bI
 go_enter Tryz.func199,Tryz.ntmps199
 go_upto_region 1 with(fail)
 rw[<-bI.out,<-cJ.out]
 have e0:=A4t 128 V (172 * k) 5 (by decide)
 have e1:=A4t 128 V (172 * k+5) 6 (by decide)
 have e2:=A4t 128 V (172 * k+11) 31 (by decide)
 have e3:=A4t 128 V (172 * k+42) 2 (by decide)
 go_wp2_with (first
  |(go_at_call 131;refine(A08 b 128 V (172 * k) 5 F _ bC.out bZ.out (by decide) (by have:=aE.out;omega)).mono ?_;rintro e w2 ⟨rfl,r2,a2,b2⟩;have bD:=C6x r2;have aT:=C6x (bX.out.trans a2);have aW:=C6x b2;have aJ:=C6x (HY.out.keep (a2.block y HY.out.lt aB.out));clear r2 a2 b2 bC)
  |(go_at_call 131;refine(A08 b 128 V (172 * k+5) 6 F _ bD.out aW.out (by decide) (by have:=aE.out;omega)).mono ?_;rintro e w3 ⟨rfl,r3,a3,b3⟩;have bF:=C6x r3;have aU:=C6x (aT.out.trans a3);have aX:=C6x b3;have aK:=C6x (aJ.out.keep (a3.block y aJ.out.lt aB.out));clear r3 a3 b3 bD)
  |(go_at_call 131;refine(A08 b 128 V (172 * k+11) 31 F _ bF.out aX.out (by decide) (by have:=aE.out;omega)).mono ?_;rintro e w4 ⟨rfl,r4,a4,b4⟩;have bG:=C6x r4;have aV:=C6x (aU.out.trans a4);have aY:=C6x b4;have aL:=C6x (aK.out.keep (a4.block y aK.out.lt aB.out));clear r4 a4 b4 bF)
  |(go_at_call 131;refine(A08 b 128 V (172 * k+42) 2 F _ bG.out aY.out (by decide) (by have:=aE.out;omega)).mono ?_;rintro e w5 ⟨rfl,r5,a5,b5⟩;have bH:=C6x r5;have aI:=C6x (aV.out.trans a5);have aZ:=C6x b5;have bK:=C6x (aL.out.keep (a5.block y aL.out.lt aB.out));clear r5 a5 b5 bG)
  |fail)
 have hx:=aI.out.size
 obtain⟨E,hE⟩:∃E,E=(⟨⟨#[]⟩,((C4 128 V (172 * k+5) 6:Nat):Int),((C4 128 V (172 * k+11) 31:Nat):Int),((C4 128 V (172 * k+42) 2:Nat):Int)⟩:En):=⟨_,rfl⟩
 obtain⟨u,hu⟩:∃u,u=w5.heap.size:=⟨_,rfl⟩
 obtain⟨g,hg⟩:∃g,g=w5.heap.size+1:=⟨_,rfl⟩
 obtain⟨W7,aA⟩:∃W,W=(w5.alloc (.cells (ea E) 74)).alloc (.cells (a16 λ_=>0) 288):=⟨_,rfl⟩
 have J:RdQ w y u g b V k F E 0 W7:=by
  have aH:=aZ.out
  have aS:=bK.out
  have bR:Bd F (w5.alloc (.cells (ea E) 74)):=λq J=>Nat.lt_of_lt_of_le (aH q J) (by simp)
  refine⟨?_,?_,?_,?_,?_,?_,⟨?_,aB.out,?_,?_,?_,?_⟩,?_,bB.out,?_⟩
  ·rw[aA];exact(bH.out.alloc aH _).alloc bR _
  ·rw[aA];exactλq J=>Nat.lt_of_lt_of_le (bR q J) (by simp)
  ·rw[aA,hu];exact(C3.new _ _ _).alloc _
  ·rw[aA];exact(aS.alloc _).alloc _
  ·rw[aA,hg]
   have:=C3.new (w5.alloc (.cells (ea E) 74)) 288 (a16 λ_=>0)
   rw[World.size_alloc]at this
   exact this
  ·rw[aA];exact(aI.out.alloc _).alloc _
  ·exactλh=>by have:=aH u h;omega
  ·exactλh=>by have:=aH g h;omega
  ·have:=aS.lt;omega
  ·omega
  ·have:=aS.lt;omega
  ·omega
  ·omega
 have HQ:=C6x J
 have HE:=C6x hE
 have bP:W7=(w5.alloc (.cells #[.string ⟨#[]⟩,.int .i64 ((C4 128 V (172 * k+5) 6:Nat):Int),.int .i64 ((C4 128 V (172 * k+11) 31:Nat):Int),.int .i64 ((C4 128 V (172 * k+42) 2:Nat):Int)] 74)).alloc (.cells #[.int .u8 0,.int .u8 0,.int .u8 0,.int .u8 0,.int .u8 0,.int .u8 0,.int .u8 0,.int .u8 0,.int .u8 0,.int .u8 0,.int .u8 0,.int .u8 0,.int .u8 0,.int .u8 0,.int .u8 0,.int .u8 0] 288):=by rw[aA,hE];rfl
 rw[<-bP,<-hg,<-hu]
 obtain⟨n,hn⟩:∃n,n=C4 128 V (172 * k) 5:=⟨_,rfl⟩
 have cE:=C6x hn
 have cT:=C6x (show n<32 by rw[hn];exact Q7 _ _ _ _)
 rw[<-hn]
 clear J hE aA bP hg hu hx e0 e1 e2 e3 hn bH aI aZ bK aJ aK aL aW aX aY aT aU aV
 go_loopw [21] (RdL w y u g b V k E F) (λt _=>16-(intOf t).toNat)
 case atStart=>exact⟨0,rfl,Nat.zero_le _,HQ.out⟩
 case round=>
  obtain⟨j,rfl,hj,hP⟩:=hrel
  have I:=C6x hP
  clear hP
  by_cases aQ:j<16
  ·have bA:=C6x aQ
   obtain⟨p,hp⟩:∃p,p=C4 128 V (172 * k+44+8 * j) 8:=⟨_,rfl⟩
   have cN:p<256:=by rw[hp];exact Q7 _ _ _ _
   have ej:IntKind.u8.wrap (p:Int)=(p:Int):=by rw[IntKind.wrap_u8];omega
   have cF:=C6x hp
   have cH:=C6x (λ(w':World) (r:RSt w' F b 128 V (172 * k+44+8 * j+8)) (a:B0 F wr F w') (b':Bd F w')=>show RdQ w y u g b V k F E (j+1) (w'.setCell ⟨g,j,none⟩ (.int .u8 (p:Int)))by rw[hp];exact I.out.get r a b')
   have bT:∀w',B0 F wr F w'->w'.cell? ⟨g,j,none⟩=some (.int .u8 0)/\w'.frozen? ⟨g,j,none⟩=false:=λw' a=>by
    have hB:=I.out.bg.keep (a.block g I.out.bg.lt I.out.ne.2.2.1)
    refine⟨?_,hB.frozen j⟩
    rw[hB.cell j,A2r _ _ aQ,if_neg (by omega)];rfl
   have cC:=C6x bT
   clear hp cN bT
   go_wp2_with (first
    |(go_at_call 131;refine(A08 b 128 V (172 * k+44+8 * j) 8 F _ I.out.rs I.out.bd (by decide) (by have:=bA.out;have:=aE.out;omega)).mono ?_;rintro e w6 ⟨rfl,r6,a6,b6⟩;rw[<-cF.out];obtain⟨c6,f6⟩:=cC.out _ a6;have cG:=C6x (cH.out _ r6 a6 b6);clear r6 a6 b6)
    |fail)
   exact⟨⟨j+1,by go_num,bA.out,cG.out⟩,by simp[intOf]<;>omega⟩
  ·obtain rfl:j=16:=by omega
   clear hj aQ
   obtain⟨m,hm⟩:∃m,m=min n 16:=⟨_,rfl⟩
   have bU:(min (n:Int) 16)=(m:Int):=by omega
   have cR:=C6x bU
   have aR:m<=16:=by omega
   have cQ:=C6x aR
   have cD:=C6x hm
   have bS:∀w',C3 w' g 288 (a16 λi=>if i<16 then C4 128 V (172 * k+44+8 * i) 8 else 0)->(convert 54 9 (.slice (some ⟨g,0,none⟩) m 16)).run Tryz.prog w'= .ok (.string (rdS V k m)) w':=λw' hB=>by
    rw[<-B8L]
    refine A0T ⟨_,_,rfl,aR,by decide,by simp,λx=>(by cases x),λ_=>⟨_,rfl,hB.lt,λj u hu=>?_⟩⟩
    have hj:j<m:=by have:=(List.getElem?_eq_some_iff.1 hu).1;simpa using this
    rw[add_none,Nat.zero_add,hB.cell,A2r _ _ (by omega),if_pos (by omega),<-hu]
    simp[hj]
   have aP:=bS wr I.out.bg
   have cP:=C6x aP
   obtain⟨S,hS⟩:∃S,S=rdS V k m:=⟨_,rfl⟩
   rw[<-hS]at aP
   have HS:=C6x hS
   have u0:wr.cell? ⟨u,0,none⟩=some (.string ⟨#[]⟩):=(I.out.bu.cell 0).trans (by rw[HE.out];rfl)
   have uf:=I.out.bu.frozen 0
   have HU:=C6x (I.out.bu.set_ 0 (.string S))
   have cM:(m:Int)<=16:=by omega
   clear bS hm hS
   go_upto_region 10 with(fail)
   obtain⟨Z,aD⟩:∃Z,Z=wr.setCell ⟨u,0,none⟩ (.string S):=⟨_,rfl⟩
   rw[<-aD]at HU⊢
   obtain⟨X,U,Y,aN,aM,aO⟩:∃a b c,a=E.i/\b=E.g/\c=E.k:=⟨_,_,_,rfl,rfl,rfl⟩
   have bO:C3 Z u 74 (ea ⟨S,X,U,Y⟩):=by rw[aN,aM,aO];exact HU.out
   obtain⟨s0,s1,s2,s3⟩:=bO.e4.all
   simp only at s0 s1 s2 s3
   have bJ:=C6x (show C3 Z y 74 (ea ⟨⟨#[]⟩,0,0,0⟩)by rw[aD];exact I.out.by_.far (p:=⟨u,0,none⟩) I.out.ne.2.2.2.1.symm _)
   have aF:=C6x (show RSt Z F b 128 V (172 * (k+1))by rw[aD,show 172 * (k+1)=172 * k+44+8 * 16 by omega];exact I.out.rs.setCell I.out.bd (p:=⟨u,0,none⟩) I.out.ne.1 _)
   have cA:=C6x (show Bd F Z by rw[aD];exactλq J=>by simpa[World.setCell]using I.out.bd q J)
   have bY:=C6x (show B0 F w F Z by rw[aD];exact I.out.ad.setCell (p:=⟨u,0,none⟩) (.inr I.out.new.1) _)
   have cB:=C6x (show(⟨S,X,U,Y⟩:En)=rdE V k (min (rdN V k) 16)by
    have h1:rdN V k=n:=cE.out.symm
    rw[h1,<-cD.out,aN,aM,aO,HE.out,HS.out]
    rfl)
   clear aD aN aM aO bO u0 uf aP bU cM aR
   go_wp2_with (first
    |(refine wpList_store_mid rfl 74 (.tmp 2) (.tmp 35) rfl y 0 (ea ⟨S,X,U,Y⟩) rfl rfl (bJ.out.four rfl) C8 (R4 _) ?_)
    |fail)
   have bQ:=bJ.out.front (ea ⟨S,X,U,Y⟩).toList (Nat.le_refl _) (ea ⟨S,X,U,Y⟩) rfl (λj _=>by simp) (λj hj=>by rw[Array.getElem?_eq_none (by simpa[ea]using hj),Array.getElem?_eq_none (by simpa[ea]using hj)])
   have bM:=B0.csetCells (ea ⟨S,X,U,Y⟩).toList 0 _ bY.out (.inr bB.out)
   have aG:=B0.csetCells (F:=(·=y)) (F':=(·=y)) (ea ⟨S,X,U,Y⟩).toList 0 _ (B0.refl _ Z) (.inl rfl)
   obtain⟨W9,cL⟩:∃W9,W9=Z.setCells y 0 (ea ⟨S,X,U,Y⟩).toList:=⟨_,rfl⟩
   rw[<-cL]at bQ bM aG⊢
   obtain⟨z0,z1,z2,z3⟩:=bQ.e4.all
   simp only at z0 z1 z2 z3
   have cO:RSt W9 F b 128 V (172 * (k+1)):=by
    obtain⟨rv,hB,cK⟩:=aF.out.ex
    have bV:Sep (·=y) F:=λq h1 h2=>by subst h1;exact aB.out h2
    exact⟨⟨rv,hB.keep (aG.block b hB.lt (λe=>bV b e aF.out.inF)),cK.far aG bV⟩,aF.out.inF,aF.out.le,aF.out.sm⟩
   exact bodyPost_ret (v:=.agg #[.string S,.int .i64 X,.int .i64 U,.int .i64 Y]) (by simp[results,Tryz.results199,go_sem,z0,z1,z2,z3]) rfl ⟨by rw[<-cB.out];rfl,cO,bM,aG.bd cA.out⟩
end
section
open Go.ChangeShapes Go.WideShapes Go.ChangeAt Go.RowKit
theorem B0.newF{W w w':World}{F F':Nat->Prop}(h:B0 B5 W B5 w)(I:B0 F w F' w')(U:∀q,F q->W.heap.size<=q):B0 B5 W B5 w':=
 ⟨I.os.trans h.os,I.tape.trans h.tape,I.output.trans h.output,Nat.le_trans h.size I.size,λk J _=>(I.block k (Nat.lt_of_lt_of_le J h.size) (λX=>absurd (U k X) (by omega))).trans (h.block k J (λx=>x)),λk J=>J.elim⟩
structure PaS (W:World) (b V j:Nat) (F:Nat->Prop) (l:List En) (v:Value) (w:World):Prop where
 rs:RSt w F b 128 V (172 * j)
 bd:Bd F w
 ex:∃F2,Sl w F2 74 4 v l.length (ecs l)/\Sep F F2/\∀q,F2 q->W.heap.size<=q
 ad:B0 B5 W B5 w
 fn:∀q,F q->W.heap.size<=q
section
variable {W w w':World} {b V j:Nat} {F:Nat->Prop} {l:List En} {v:Value}
theorem PaS.alloc(h:PaS W b V j F l v w)(o:Obj):PaS W b V j F l v (w.alloc o):=by
 obtain⟨I,J,U,h3⟩:=h.ex
 exact⟨h.rs.alloc h.bd o,λq X=>Nat.lt_of_lt_of_le (h.bd q X) (by simp),⟨I,J.far (F':=B5) ((B0.refl B5 w).alloc o) (λ_ x _=>x),U,h3⟩,h.ad.alloc o,h.fn⟩
theorem PaS.form(h:PaS W b V j F l v w):∃A c,v= .slice A l.length c:=by
 obtain⟨J,I,_⟩:=h.ex
 obtain⟨A,c,e,_⟩:=I.form0
 exact⟨A,c,e⟩
theorem PaS.read(h:PaS W b V j F l v w)(Z:RSt w' F b 128 V (172 * (j+1)))(J:B0 F w F w')(Y:Bd F w'):PaS W b V (j+1) F l v w':=by
 obtain⟨U,X,I,h3⟩:=h.ex
 exact⟨Z,Y,⟨U,X.far J I,I,h3⟩,h.ad.newF J h.fn,h.fn⟩
theorem PaS.own(h:PaS W b V j F l v w):w.ownsRow 0 74 4 v l.length (ecs l):=by
 obtain⟨J,I,_⟩:=h.ex
 exact I.own
theorem PaS.push{e:En}{I:Value}(h:PaS W b V j F l v w)(aB:w'.ownsRow 0 74 4 I (l.length+1) (ecs l++ec e))(hg:w.grownBy w' v.ownBlock)(aC:I.ownBlock=v.ownBlock\/I.ownBlock=some w.heap.size):PaS W b V j F (l++[e]) I w':=by
 obtain⟨J,Z,h2,h3⟩:=h.ex
 have aA:∀q,(J q\/I.ownBlock=some q)->J q\/w.heap.size<=q:=by
  rintro q (h|h)
  ·exact .inl h
  ·rcases aC with e|e
   ·exact .inl (Z.inF q (by rw[<-e];exact h))
   ·rw[e]at h;injection h with h;right;omega
 have X:B0 J w (λq=>J q\/I.ownBlock=some q) w':=by
  have U:=(B0.refl J w).grown hg (λq Y=>.inl (Z.inF q Y))
  exact⟨U.os,U.tape,U.output,U.size,U.block,aA⟩
 have aD:Sep F (λq=>J q\/I.ownBlock=some q):=λq a c=>by
  rcases aA q c with d|d
  ·exact h2 q a d
  ·have:=h.bd q a;omega
 obtain⟨rv,hB,hS⟩:=h.rs.ex
 have hb:=X.block b hB.lt (λf=>h2 b h.rs.inF f)
 refine⟨⟨⟨rv,hB.keep hb,hS.far X h2.symm⟩,h.rs.inF,h.rs.le,h.rs.sm⟩,X.bd h.bd,⟨_,⟨by rw[List.length_append,A3E,A7e];exact aB,λq Y=>.inr Y,?_⟩,aD,λq Y=>?_⟩,h.ad.newF X h3,h.fn⟩
 ·rintro q (c|c)
  ·exact Nat.lt_of_lt_of_le (Z.bd q c) X.size
  ·exact(aB.lt q c).2
 ·rcases aA q Y with d|d
  ·exact h3 q d
  ·exact Nat.le_trans h.ad.size d
end
theorem C0Y(w:World)(o:Obj)(e:En):Rd ((w.alloc o).alloc (.cells (ea e) 74)) 4 (.slice (some ⟨w.heap.size+1,0,none⟩) 1 1) 1 (ec e):=by
 have:=B8K (w.alloc o) e
 rwa[World.size_alloc]at this
theorem B13(V k:Nat):(rdE V k (min (rdN V k) 16)).s.size=min (rdN V k) 16:=by
 show(A1K 128 V (172 * k+44) (min (rdN V k) 16)).toArray.size=_
 rw[List.size_toArray,A0D]
theorem C4A{s:ByteArray}(h:s.size=0):s=⟨#[]⟩:=by
 apply A0i
 rw[List.eq_nil_of_length_eq_zero (show s.data.toList.length=0 from h)]
theorem C2U{s:ByteArray}(h:s.size≠0):(s.toList==[])=false:=by
 rw[beq_eq_false_iff_ne,ByteArray.toList_eq]
 intro e
 exact h (by show s.data.size=0;rw[<-Array.length_toList,e];rfl)
def PaL(W:World)(b V:Nat)(F:Nat->Prop)(t4 t8:Value)(wr:World):Prop:=∃j:Nat,t8= .int .i64 (j:Int)/\j<=5/\PaS W b V j F (ptP V j) t4 wr
theorem B32(v:Value)(r:List Nat)(w:World)(h:Rd w 1 v 128 (r.map u8))(hl:r.length=128)(hb:∀x∈r,x<256):
 Calls Tryz.prog 173 #[v] w λx w'=>∃v',x= .returned v'/\EnO w (ptP (byN r) 5) v' w':=by
 obtain⟨A,c,rfl,_,_⟩:=h.form
 obtain⟨V,hV⟩:∃V,V=byN r:=⟨_,rfl⟩
 have aK:Calls Tryz.prog 130 #[.slice A 128 c] w λe w'=>∃b F,e= .returned (.pointer (some ⟨b,0,none⟩))/\RSt w' F b 128 V 0/\B0 B5 w F w'/\Bd F w':=A3X _ 128 V w (by rw[hV,<-hl,B8s r hb,hl];exact h) (by decide)
 rw[<-hV]
 have HO:=C6x aK
 clear aK hV hl hb h
 go_enter Tryz.func173,Tryz.ntmps173
 go_wp2_with (first
  |(go_at_call 130;refine HO.out.mono ?_;rintro x w1 ⟨b,F,rfl,r1,a1,b1⟩;have aO:=C6x (show PaS w b V 0 F [] (.slice none 0 0) w1 from⟨r1,b1,⟨B5,Sl.nil _ _ _,λ_ _ x=>x,λ_ x=>x.elim⟩,a1.sub (λ_ x=>x.elim),λq hq=>(a1.into q hq).elim (λx=>x.elim) id⟩);clear r1 a1 b1)
  |fail)
 go_loopw [4,8] (PaL w b V F) (λ_ t _=>5-(intOf t).toNat)
 case atStart=>exact⟨0,rfl,Nat.zero_le _,aO.out⟩
 case round=>
  obtain⟨j,rfl,hj,hP⟩:=hrel
  obtain⟨A4,c4,rfl⟩:=hP.form
  obtain⟨n,hn⟩:∃n,n=(ptP V j).length:=⟨_,rfl⟩
  rw[<-hn]at hP⊢
  have J:=C6x hP
  clear hP
  by_cases aG:j<5
  ·have aB:=C6x aG
   obtain⟨E,hE⟩:∃E,E=rdE V j (min (rdN V j) 16):=⟨_,rfl⟩
   have aA:E.s.size=min (rdN V j) 16:=by rw[hE];exact B13 V j
   have aF:=C6x (show Calls Tryz.prog 199 #[.pointer (some ⟨b,0,none⟩)] wr λx w'=>x= .returned (.agg (ea E))/\RSt w' F b 128 V (172 * (j+1))/\B0 F wr F w'/\Bd F w' by rw[hE];exact B63 b V j F wr J.out.rs J.out.bd aG)
   have aE:=C6x (B88 V j)
   have aD:=C6x (show prP V j=if rdN V j=0 then none else some E by rw[hE];rfl)
   have HN:=C6x hn
   have aN:=C6x (show n<=5 by rw[hn];exact Nat.le_trans (List.length_filterMap_le _ _) (by rw[List.length_range];omega))
   clear hE hn
   obtain⟨s,i,g,I⟩:=E
   simp only at aA
   simp only[ea]at aF
   by_cases Y:rdN V j=0
   ·obtain rfl:=C4A (by rw[aA,Y];rfl)
    have aQ:=C6x (show ptP V (j+1)=ptP V j by rw[aE.out,aD.out,if_pos Y];simp)
    clear Y aA aE aD
    go_wp2_with (first
     |(go_at_call 199;refine aF.out.mono ?_;rintro x w2 ⟨rfl,r2,U,X⟩;have aC:=C6x ((J.out.read r2 U X).alloc (.cells #[.string ⟨#[]⟩,.int .i64 i,.int .i64 g,.int .i64 I] 74));clear r2 U X)
     |fail)
    exact⟨⟨j+1,by go_num,aB.out,by rw[aQ.out];exact aC.out⟩,by have:=aB.out;simp[intOf]<;>omega⟩
   ·have aS:=C2U (s:=s) (by rw[aA];omega)
    have aR:=C6x (show ptP V (j+1)=ptP V j++[⟨s,i,g,I⟩]by rw[aE.out,aD.out,if_neg Y];rfl)
    clear Y aA aE aD
    go_wp2_with (first
     |(go_at_call 199;refine aF.out.mono ?_;rintro x w2 ⟨rfl,r2,U,X⟩;have aC:=C6x (((J.out.read r2 U X).alloc (.cells #[.string s,.int .i64 i,.int .i64 g,.int .i64 I] 74)).alloc (.cells #[.string s,.int .i64 i,.int .i64 g,.int .i64 I] 74));have aH:=aC.out.own;rw[<-HN.out]at aH;have aM:=C0Y w2 (.cells #[.string s,.int .i64 i,.int .i64 g,.int .i64 I] 74) ⟨s,i,g,I⟩;clear r2 U X)
     |(at_builtin;refine R0 rfl (.tmp 15) (.tmp 17) rfl rfl rfl aH aM (B87 _) (by have:=aN.out;omega) ?c5)
     |fail)
    case c5=>
     intro v' w5 aL aJ aI
     have hp:=aC.out.push (e:=⟨s,i,g,I⟩) (by rw[<-HN.out];exact aL) aJ (by simpa using aI)
     rw[<-aR.out]at hp
     have aP:=C6x hp
     obtain⟨A5,c5,rfl⟩:=hp.form
     clear hp aL aJ aI aH aM
     go_wp2_with fail
     exact⟨⟨j+1,by go_num,aB.out,aP.out⟩,by have:=aB.out;simp[intOf]<;>omega⟩
  ·obtain rfl:j=5:=by omega
   clear hj aG
   go_wp2_with fail
   go_ret
   obtain⟨F2,h1,_,h3⟩:=J.out.ex
   refine⟨_,rfl,⟨F2,h1,?_⟩,λe he=>?_⟩
   ·have Z:=J.out.ad
    exact⟨Z.os,Z.tape,Z.output,Z.size,Z.block,λq hq=>.inr (h3 q hq)⟩
   ·obtain⟨k,_,hk⟩:=List.mem_filterMap.1 he
    unfold prP at hk
    split at hk
    ·cases hk
    ·rw[<-Option.some.inj hk,B13];unfold maxLen;omega
end
section
open Go.ChangeShapes Go.WideShapes Go.ChangeAt Go.RowKit
theorem A7f{w w2 J:World}{F:Nat->Prop}{g X n m:Nat}{I:Value}{xs U:List Value}(Y:Sl w2 F 5 1 (.slice (some ⟨g,0,none⟩) n X) n xs)(Z:B0 B5 w F w2)
 (aB:J.ownsRow 0 5 1 I m U) (hg:w2.grownBy J (some g)) (aA:I.ownBlock=some g\/I.ownBlock=some w2.heap.size):Sl J (λj=>F j\/I.ownBlock=some j) 5 1 I m U/\B0 B5 w (λj=>F j\/I.ownBlock=some j) J:=
 let h:=A4E Y Z aB hg aA (Nat.le_refl _)
 ⟨h.1,h.2.2⟩
def BkL(W:World)(b:Nat)(l:List En)(t:Value)(wr:World):Prop:=∃(k:Nat) (F:Nat->Prop),t= .int .i64 (k:Int)/\k<=l.length/\WL W B5 F b (bN l k) (172 * k) wr
def BkR(w:World)(l:List En)(x:Ending)(w':World):Prop:=∃A k F,x= .returned (.tuple #[.slice A 128 k,.int .i64 0])/\Sl w' F 5 1 (.slice A 128 k) 128 ((X5 l).map u8)/\B0 B5 w F w'
theorem B33(v:Value)(l:List En)(w:World)(h:M0 w v l)(aL:∀e∈l,okE e)(Z:l.length<=5)(h0:0<l.length):Calls Tryz.prog 202 #[v] w (BkR w l):=by
 obtain⟨A,c,rfl,aK,aZ⟩:=h.form
 obtain⟨n,hn⟩:∃n,n=l.length:=⟨_,rfl⟩
 have aC:=B3s l Z
 rw[<-hn]at h aK Z h0 aC⊢
 obtain⟨q,hq⟩:∃q,q=qn (172 * n):=⟨_,rfl⟩
 obtain⟨r,hr⟩:∃r,r=128-qn (172 * n):=⟨_,rfl⟩
 have aO:q+r=128/\0<r/\0<q:=by unfold qn at hq hr;omega
 have HR:=C6x h
 have U:=C6x hn
 have aT:=C6x aL
 have HL:=C6x Z
 have H0:=C6x h0
 have HQ:=C6x hq
 have X:=C6x aO
 have aV:=C6x (show wrap64 ((128:Int)-(q:Int))=(r:Int)by unfold wrap64;omega)
 have aU:=C6x (show(V1 (bN l n) (172 * n)).map u8++List.replicate r (u8 0)=(X5 l).map u8 by rw[hr,<-aC,List.map_append,List.map_replicate])
 clear h hn aL aC aZ aK hq hr aO
 go_enter Tryz.func202,Tryz.ntmps202
 go_wp2_with (first
  |(go_at_call 133;refine(A5W _).mono ?_;rintro x w1 ⟨b,F,rfl,aP,aF,aH⟩;have G1:=C6x (WL.mk aP aF aH);clear aP aF aH)
  |fail)
 go_loopw [12] (BkL w b l) (λt _=>n-(intOf t).toNat)
 case atStart=>exact⟨0,F,rfl,Nat.zero_le _,G1.out⟩
 case round=>
  obtain⟨k,F2,rfl,hk,h2⟩:=hrel
  rw[<-U.out]at hk
  have I:=C6x h2
  clear h2
  by_cases aB:k<n
  ·have aA:k<l.length:=by rw[<-U.out];exact aB
   obtain⟨b1,o1,rfl,aY,g0,g1,g2,g3⟩:=(HR.out.step I.out.ad).at_ U.out aA
   obtain⟨e,Y⟩:∃e,e=l[k]:=⟨_,rfl⟩
   have aI:okE e:=by rw[Y];exact aT.out _ (List.getElem_mem _)
   have aE:=C6x aB
   have aS:=C6x (show bN l (k+1)=sN (bN l k) e 16 from A9K (by rw[Y];exact List.getElem?_eq_getElem aA))
   rw[<-Y]at g0 g1 g2 g3
   have aD:=C6x (λw' (h:WL w B5 F2 b (bN l k) (172 * k) w')=>B8H e aI b (bN l k) (172 * k) F2 w' h.ws h.bd (by omega))
   obtain⟨s,i,g,kd⟩:=e
   simp only at g0 g1 g2 g3
   simp only[ea]at aD
   clear Y aI aA aY
   go_wp2_with (first
    |(go_at_call 218;refine(aD.out _ (I.out.over ((B0.refl B5 wr).alloc _))).mono ?_;rintro x w3 ⟨rfl,F3,q1,q2,q3⟩;have G3:=C6x (WL.mk q1 ((I.out.over ((B0.refl B5 wr).alloc (.cells #[.string s,.int .i64 i,.int .i64 g,.int .i64 kd] 74))).ad.trans q2) q3);clear q1 q2 q3)
    |fail)
   exact⟨⟨k+1,F3,by go_num,by have:=aE.out;have:=U.out;omega,by rw[aS.out,show 172 * (k+1)=172 * k+172 by omega];exact G3.out⟩,by have:=aE.out;simp[intOf]<;>omega⟩
  ·obtain rfl:k=n:=by omega
   clear aB hk Z h0
   go_wp2_with (first
    |(go_at_call 135;refine(A5X b _ _ F2 _ I.out.ws (by have:=HL.out;omega)).mono ?_;rintro x w3 ⟨v3,F3,rfl,J,a3⟩;rw[<-HQ.out]at J;obtain⟨g0,cc,rfl,_,_⟩:=J.form X.out.2.2;have aW:=C6x J;have aQ:=C6x ((I.out.ad.sub (G:=B5) (λ_ h=>h.elim)).trans a3);have aM:=J.own;clear J a3)
    |(at_builtin;refine Z6 rfl (.tmp 28) (.tmp 31) rfl (m:=r) rfl (congrArg (Value.int .i64) aV.out) aM X.out.2.1 (by have:=X.out;omega) ?c5)
    |fail)
   case c5=>
    intro v' w7 aN aJ aG
    obtain⟨s7,a7⟩:=A7f aW.out aQ.out aN aJ aG
    rw[aU.out,X.out.1]at s7
    obtain⟨A7,c7,rfl,_,_⟩:=s7.form0
    have aX:=C6x s7
    have aR:=C6x a7
    clear s7 a7 aM aN aJ aG
    go_wp2_with fail
    exact bodyPost_ret (v:=.tuple #[.slice A7 128 c7,.int .i64 0]) (by simp[results,Tryz.results202,go_sem]) rfl ⟨A7,c7,_,rfl,aX.out,aR.out⟩
end
section
open Go.ChangeShapes Go.WideShapes Go.ChangeAt Go.RowKit Go.Shelf
attribute [local go_sem] Oper.semAt_some
theorem B64(A:Option Addr)(n c:Nat)(w:World):Calls Tryz.prog 201 #[.slice A n c,.int .i64 5] w λe w'=>e= .returned (.func (.func 217) #[] #[.pointer (some ⟨w.heap.size,0,none⟩),.pointer (some ⟨w.heap.size+1,0,none⟩)])/\w'=(w.alloc (.cells #[.slice A n c] 66)).alloc (.cells #[.int .i64 5] 3):=by
 go_enter Tryz.func201,Tryz.ntmps201
 go_wp2_with fail
 go_ret
 exact⟨rfl,rfl⟩
def ckV(b o N k:Nat):Value:=.slice (some ⟨b,o+5 * k * 4,none⟩) (min 5 (N-5 * k)) (min 5 (N-5 * k))
def Kp3(b U J:Nat)(W I:World):Prop:=I.heap[b]? =W.heap[b]? /\I.heap[U]? =W.heap[U]? /\I.heap[J]? =W.heap[J]?
theorem Kp3.trans{b J I:Nat}{A B C:World}(h:Kp3 b J I A B)(k:Kp3 b J I B C):Kp3 b J I A C:=⟨k.1.trans h.1,k.2.1.trans h.2.1,k.2.2.trans h.2.2⟩
theorem Kp3.refl(b J I:Nat)(W:World):Kp3 b J I W W:=⟨rfl,rfl,rfl⟩
def nCk(N:Nat):Nat:=(N+4)/5
theorem B14{n k:Nat}(h:k<n):(List.finRange n).take (k+1)=(List.finRange n).take k++[⟨k,h⟩]:=by
 rw[List.take_succ_eq_append_getElem (by simpa using h)]
 simp
theorem B66(F:Fence)(n:Nat)(h7:F.fn 217)(aR:F.round=none)(hn:1<=n)(l U I b o N c:Nat)(aV:N<=c)(aU:N<=24)(aW:(c:Int)<=9223372036854775807)(J Jx:List (Fin (nCk N))->World->Prop)
 (hY:∀X x W,J X W->X.length<nCk N->YieldAt F (n-1) Tryz.prog l #[ckV b o N x.1] W λe Y=>
  (e= .returned (.bool true)/\J (X++[x]) Y/\Kp3 b U I W Y)\/(e= .returned (.bool false)/\Jx (X++[x]) Y))
 (W:World) (hJ:AbidesFrom W.heap.size J) (aD:W.cell? ⟨U,0,none⟩=some (.slice (some ⟨b,o,none⟩) N c)) (aC:W.cell? ⟨I,0,none⟩=some (.int .i64 5)) (h0:J [] W):
 CallsIn F n Tryz.prog 217 #[.func (.yield l) #[] #[],.pointer (some ⟨U,0,none⟩),.pointer (some ⟨I,0,none⟩)] W λe Y=>(∃v,e= .returned v)/\
  ((∃ys,ys=List.finRange (nCk N)/\J ys Y)\/(∃X,X<+:List.finRange (nCk N)/\Jx X Y)):=by
 refine callsIn_of_wp Tryz.func217 rfl h7 ?_ aR
 simp only[Tryz.ntmps217,List.size_toArray,List.length_cons,List.length_nil,Nat.reduceAdd,Nat.reduceSub,Array.replicate_succ,Array.replicate_zero,List.push_toArray,List.append_toArray,List.nil_append,List.cons_append]
 gi_wp2
 gi_loopw [4] (λi wr=>∃k K:Nat,k<=nCk N/\K=5 * k/\i= .int .i64 (K:Int)/\J ((List.finRange (nCk N)).take k) wr/\Kp3 b U I W wr)
  (λi _=>N+5-(intOf i).toNat)
 case atStart=>exact⟨0,0,Nat.zero_le _,rfl,rfl,h0,Kp3.refl _ _ _ _⟩
 case round=>
  obtain⟨k,K,hk,hK,rfl,Z,aA⟩:=hrel
  have hs:=(World.cell?_of_block (a:=⟨U,0,none⟩) aA.2.1).trans aD
  have aJ:=(World.cell?_of_block (a:=⟨I,0,none⟩) aA.2.2).trans aC
  by_cases aQ:K<N
  ·have aH:k<nCk N:=by unfold nCk;omega
   have aF:J ((List.finRange (nCk N)).take k) wr.drew:=hJ _ wr wr.drew none Z ⟨rfl,rfl,rfl,Nat.le_refl _,λ_ _ _=>rfl⟩ (λr e=>by cases e)
   obtain⟨fn,bH,assign,body,hy,hR⟩:=hY _ ⟨k,aH⟩ wr.drew aF (by rw[List.length_take];simp;omega)
   dsimp only[ckV]at hy
   rw[<-hK]at hy
   obtain⟨m,hm⟩:∃m,m=min 5 (N-K):=⟨_,rfl⟩
   rw[<-hm]at hy
   have HM:=C6x hm
   have HK:=C6x hK
   have aM:=C6x aQ
   have bD:¬c=K:=by omega
   have aT:(K:Int)<=24:=by omega
   have aX:K+m<=N:=by omega
   have aY:(K:Int)+(m:Int)<=(c:Int):=by omega
   have aZ:K+m-K=m:=by omega
   have bA:¬K+m=K:=by omega
   have bB:¬m=0:=by omega
   have bG:wr.drew.cell? ⟨U,0,none⟩=some (.slice (some ⟨b,o,none⟩) N c):=hs
   have bF:wr.drew.cell? ⟨I,0,none⟩=some (.int .i64 5):=aJ
   have aI:(min 5 ((N-K:Nat):Int))=(m:Int):=by omega
   have aN:=C6x aI
   have aL:=C6x aA
   have HB:=C6x (And.intro aD aC)
   have HR:=C6x hR
   have aS:=C6x Z
   have aB:=C6x aH
   clear hm hK hY hJ h0 aD aC aI aA hR Z aF
   gi_wp2
   gi_region
   all_goals
    rw[aN.out]
    clear hs aJ
    gi_wp2
    refine HR.out.mono ?_
    rintro e W3 (⟨rfl,aO,aG⟩|⟨rfl,aP⟩)
    ·have aE:=aL.out.trans (show Kp3 b U I wr W3 from aG)
     have bC:=(World.cell?_of_block (a:=⟨I,0,none⟩) aE.2.2).trans HB.out.2
     have aK:=C6x aE
     clear aG aE
     gi_wp2
     go_roundw
     case rel=>exact⟨k+1,K+5,aB.out,by have:=HK.out;omega,by first|rfl|go_num,by rw[B14 aB.out];exact aO,aK.out⟩
     case measure=>have:=aM.out;simp[intOf];omega
    ·gi_wp2
     refine bodyPost_ret (results_none rfl _ _ _) rfl ?_
     exact⟨⟨_,rfl⟩,.inr ⟨_,by rw[<-B14 aB.out];exact List.take_prefix _ _,aP⟩⟩
  ·gi_wp2
   go_end0
   refine⟨⟨_,rfl⟩,.inl ⟨_,?_,Z⟩⟩
   rw[List.take_of_length_le (by simp;unfold nCk at hk⊢;omega)]
theorem A8e(F:Fence)(n:Nat)(Y:F.fn 217)(Z:F.round=none)(l I J c:Nat)(A:Option Addr)(P:World->Prop)(W:World)(aA:W.cell? ⟨I,0,none⟩=some (.slice A 0 c))(X:P W):
 CallsIn F n Tryz.prog 217 #[.func (.yield l) #[] #[],.pointer (some ⟨I,0,none⟩),.pointer (some ⟨J,0,none⟩)] W λe U=>(∃v,e= .returned v)/\P U:=by
 refine callsIn_of_wp Tryz.func217 rfl Y ?_ Z
 simp only[Tryz.ntmps217,List.size_toArray,List.length_cons,List.length_nil,Nat.reduceAdd,Nat.reduceSub,Array.replicate_succ,Array.replicate_zero,List.push_toArray,List.append_toArray,List.nil_append,List.cons_append]
 gi_wp2
 gi_loopw [4] (λi wr=>i= .int .i64 0/\wr=W) (λ_ _=>0)
 case atStart=>exact⟨rfl,rfl⟩
 case round=>
  obtain⟨rfl,rfl⟩:=hrel
  gi_wp2
  go_end0
  exact⟨⟨_,rfl⟩,X⟩
theorem B15(F:Fence)(n:Nat)(Y:F.fn 217)(aA:F.round=none)(hn:1<=n)(A:Option Addr)(N c U I b o:Nat)(hA:0<N->A=some ⟨b,o,none⟩)(aF:N<=c)(aE:N<=24)(aG:(c:Int)<=9223372036854775807)(w:World)(hb:U<w.heap.size/\I<w.heap.size)
 (aD:w.cell? ⟨U,0,none⟩=some (.slice A N c)) (aB:w.cell? ⟨I,0,none⟩=some (.int .i64 5)):
 SeqStopsK F n Tryz.prog 217 #[.pointer (some ⟨U,0,none⟩),.pointer (some ⟨I,0,none⟩)] (λx:Fin (nCk N)=> #[ckV b o N x.1]) (Kp3 b U I) (λys=>ys=List.finRange (nCk N)) (λaH=>aH<+:List.finRange (nCk N)) (nCk N) w:=λl J Jx W hW hJ _ hY X=>by
 have Z:=(hW.cell (p:=⟨U,0,none⟩) hb.1).trans aD
 have aC:=(hW.cell (p:=⟨I,0,none⟩) hb.2).trans aB
 by_cases hN:0<N
 ·obtain rfl:=hA hN
  exact B66 F n Y aA hn l U I b o N c aF aE aG J Jx hY W hJ Z aC X
 ·obtain rfl:N=0:=by omega
  exact(A8e F n Y aA l U I c A (J []) W Z X).mono λe W' ⟨he,hj⟩=>⟨he,.inl ⟨_,rfl,hj⟩⟩
end
end Go.Proofs.YtbefmjiclpobjaaGreat
