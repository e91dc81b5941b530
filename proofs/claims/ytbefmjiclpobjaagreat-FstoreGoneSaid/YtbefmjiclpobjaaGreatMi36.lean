import Derived.Test.YtbefmjiclpobjaaGreatMi32
namespace Go.Proofs.YtbefmjiclpobjaaGreat
set_option maxHeartbeats 6400000
set_option maxRecDepth 3000
section
open Go.RowKit
theorem A8i{w:World}{ty:TypeId}{v aA:Value}{n m:Nat}{U I:List Value}(V:w.ownsRow 0 35 2 v n U)(hr:Rd w 2 aA m I)(h1:∀u∈I,u.oneCell'=true)(hn:n+m<=1000000):
 ∃J w',(Builtin.append_ #[224,224] ty #[v,aA]).run Tryz.prog w= .ok J w'/\w'.ownsRow 0 35 2 J (n+m) (U++I)/\w.grownBy w' v.ownBlock/\(J.ownBlock=v.ownBlock\/J.ownBlock=some w.heap.size):=by
 obtain⟨Z,hi,aD,aE,aF⟩:=info_parts J0
 obtain⟨A,c,rfl,aH,_,Y,hA,hc⟩:=hr
 rcases A with _|W
 ·obtain rfl:c=0:=hA rfl
  obtain rfl:m=0:=by omega
  obtain rfl:I=[]:=List.eq_nil_of_length_eq_zero (by simpa using Y)
  exact⟨v,w,run_append_owned_none (P:=Tryz.prog) w 0 224 ty 35 Z 2 Tryz.underlying224 hi v n U V,by simpa using V,World.grownBy.refl _ _,.inl rfl⟩
 ·have aB:∀j u,I[j]? =some u->w.cell? (W.add j)=some u:=by
   intro j u X
   have hj:j<I.length:=(List.getElem?_eq_some_iff.1 X).1
   obtain⟨aG,e,_,h⟩:=hc (by omega)
   have e:=Option.some.inj e
   subst e
   exact h j u X
  obtain⟨J,w',aC,h2,h3,_,h5⟩:=run_append_own_at (P:=Tryz.prog) w 0 224 ty 35 Z _ 2 16 Tryz.underlying224 hi aD aE aF rfl (by decide) v n U V W m c I Y aB h1 (by unfold maxLen;omega) (by omega) (Nat.zero_le _)
  exact⟨J,w',aC,h2,h3,h5⟩
section
variable {w:World} {ops:Array Oper} {rest:List Oper} {o:Oper} {a:Act} {Q:Exit->Act->World->Prop}
theorem A5r(Z:o.guard=none)(s x:Operand)
 (ho:o.op= .call { callee:=.builtin .append,args:= #[s,x],argTypes:= #[224,224] })
 {v U:Value} {n m:Nat} {V J:List Value} (hs:a.eval s=v) (hx:a.eval x=U) (aA:w.ownsRow 0 35 2 v n V) (hr:Rd w 2 U m J) (W:∀u∈J,u.oneCell'=true) (hn:n+m<=1000000)
 (h:∀I w',w'.ownsRow 0 35 2 I (n+m) (V++J)->w.grownBy w' v.ownBlock->(I.ownBlock=v.ownBlock\/I.ownBlock=some w.heap.size)->wpList Tryz.prog ops Q rest (a.put o.dst I) w'):wpList Tryz.prog ops Q (o::rest) a w:=by
 refine wpList_plain Z λK hK=>?_
 obtain⟨I,w',aB,X,h3,Y⟩:=A8i (ty:=o.type) aA hr W hn
 unfold Oper.wp execOp
 simp only[ho,resolve,invoke,builtin,Sem.run_bind,Sem.run_pure,Result.andThen_ok,List.map_toArray,List.map_cons,List.map_nil,hs,hx,aB]
 exact hK _ _ (h I w' X h3 Y)
theorem C3m(w:World)(f:Int×Int):FiO w [f] (.slice (some ⟨w.heap.size,0,none⟩) 1 1) (w.alloc (.cells (fic f).toArray 35)):=by
 have J:C3 (w.alloc (.cells (fic f).toArray 35)) w.heap.size 35 (fic f).toArray:=C3.new _ _ _
 refine⟨L6 w.heap.size,⟨⟨by simp[A2h,fic],.inr ⟨w.heap.size,1,_,rfl,Nat.zero_le _,J,Nat.le_refl _,by decide,by simp[fic],by simp[A2h,fic]⟩⟩,λk I=>?_,λk I=>?_⟩,?_⟩
 ·have:w.heap.size=k:=by simpa[Value.ownBlock]using I
  exact this.symm
 ·unfold L6 at I
  rw[I]
  exact J.lt
 ·have:=(B1.refl B5 w).alloc (.cells (fic f).toArray 35)
  exact⟨this.os,this.tape,this.output,this.size,this.block,λk I=>.inr (by unfold L6 at I;omega)⟩
theorem A78(U:o.guard=none)(x:Operand)(W:o.op= .buildSlice 224 1 #[(0,x)])(i g:Int)(X:a.eval x= .agg #[.int .i64 i,.int .i64 g])
 (h:∀z w',w.heap.size<=z->FiO w [(i,g)] (.slice (some ⟨z,0,none⟩) 1 1) w'->B1 B5 w B5 w'->wpList Tryz.prog ops Q rest (a.put o.dst (.slice (some ⟨z,0,none⟩) 1 1)) w'):wpList Tryz.prog ops Q (o::rest) a w:=by
 obtain⟨Z,V,Y,I,_⟩:=info_parts J0
 refine wpList_buildSlice U 224 35 1 _ W (fic (i,g)).toArray Z _ Tryz.underlying224 V Y (by rw[I];decide) (by rw[I];decide) ?_ (h _ _ (Nat.le_refl _) (C3m w (i,g)) ((B1.refl _ _).alloc _))
 rw[I]
 have J:=Great.fill_whole (s:=2) (by decide) [Value.agg (fic (i,g)).toArray] ((Array.range (1 * 2)).map ((Value.agg #[.int .i64 0,.int .i64 0]).cells[·%(Value.agg #[.int .i64 0,.int .i64 0]).cells.size]!)) (λv hv=>by
  rw[List.mem_singleton]at hv
  subst hv
  rfl) (by simp)
 simpa[X,Value.cells,fic]using J
end
end
section
open Go.RowKit
theorem C3n{ops:Array Oper}{S:World->Prop}{I:Oper}{a:Act}{t:TypeId}{C:List Value}{n:Nat}{d:TypeDesc}(Z:Region.wanted I (yielded ops a.tmps)=true)(x:Operand)(W:I.op= .load t x)(z k:Nat)(hx:a.eval x= .pointer (some ⟨z,k,none⟩))(U:∀w,S w->w.rangeAt z k C)
 (Y:Tryz.prog.underlying t=some d) (V:d.isRow=true) (X:(Tryz.prog.info? t).map (·.size)=some n) (J:C.length=n):YieldsIf Tryz.prog ops S I (.agg C.toArray) a:=
 yieldsIf_load_mid (P:=Tryz.prog) (S:=S) Z t x W z k hx C d U Y V (by rw[X,J])
theorem FiO.at_{W w:World}{l:List (Int×Int)}{n c k:Nat}{A:Option Addr}(h:FiO W l (.slice A n c) w)(V:k<l.length):∃b o,A=some ⟨b,o,none⟩/\w.rangeAt b (o+k * 2) [.int .i64 l[k].1,.int .i64 l[k].2]:=by
 have X:n=l.length:=by
  obtain⟨A',c',e⟩:=h.form
  injection e
 subst X
 obtain⟨b,o,rfl,_,J⟩:=h.rd.cells (by omega) (by decide)
 refine⟨b,o,rfl,λj u I=>?_⟩
 have U:j<2:=(List.getElem?_eq_some_iff.1 I).1
 have:=J (k * 2+j) u (by rw[C10 l k j U V];exact I)
 rw[<-Nat.add_assoc]at this
 exact this
theorem C3o{ops:Array Oper}{S:World->Prop}{J:Oper}{a:Act}{U V d1 d2:Int}(Y:Region.wanted J (yielded ops a.tmps)=true)(x y:Operand)(ty:TypeId)(X:J.op= .binOp .eql 35 x y ty)(Z:a.eval x= .agg #[.int .i64 U,.int .i64 V])(hy:a.eval y= .agg #[.int .i64 d1,.int .i64 d2]):YieldsIf Tryz.prog ops S J (.bool (decide (U=d1/\V=d2))) a:=.inl ⟨Y,λw _=>by
 unfold execOp
 simp only[X,Z,hy]
 go_simp
 by_cases I:U=d1
 ·by_cases W:V=d2
  ·simp[I,W]
  ·simp[I,W]
 ·simp[I]⟩
theorem B6S(f:Int×Int):∀u∈A2h [f],u.oneCell'=true:=λu I=>by
 rw[B92]at I
 exact C12 f u I
structure MiS (F7:Nat->Prop) (w8:World) (l:List (Int×Int)) (v:Value) (w:World):Prop where
 ex:∃F,Sl w F 35 2 v l.length (A2h l)/\B1 F7 w8 F w
section
variable {F7 F':Nat->Prop} {w8 w w' w1:World} {l:List (Int×Int)} {v:Value}
theorem MiS.step(h:MiS F7 w8 l v w)(I:B1 B5 w F' w'):MiS F7 w8 l v w':=by
 obtain⟨F,J,U⟩:=h.ex
 exact⟨⟨F,J.far I (λ_ h _=>h),U.over I⟩⟩
theorem MiS.form(h:MiS F7 w8 l v w):∃A c,v= .slice A l.length c:=by
 obtain⟨F,I,J⟩:=h.ex
 obtain⟨A,c,e,_⟩:=I.form0
 exact⟨A,c,e⟩
theorem MiS.fi(h:MiS F7 w8 l v w)(U:B1 B5 w1 F7 w8):FiO w1 l v w:=by
 obtain⟨F,I,J⟩:=h.ex
 exact⟨⟨F,I,U.trans J⟩⟩
theorem MiS.en{u:Value}{L:List En}(h:MiS F7 w8 l v w)(J:M6 w8 u L)(W:∀k,u.ownBlock=some k->¬F7 k):M6 w u L:=by
 obtain⟨F,X,I⟩:=h.ex
 exact⟨J.rd.far (λk U _ V=>I.block k V (W k U)) I.size,J.sz⟩
theorem MiS.more{m:List (Int×Int)}(h:MiS F7 w8 l v w):w.ownsRow 0 35 2 v l.length (A2h l)/\∀I J,J.ownsRow 0 35 2 I (l.length+m.length) (A2h l++A2h m)->w.grownBy J v.ownBlock->(I.ownBlock=v.ownBlock\/I.ownBlock=some w.heap.size)->MiS F7 w8 (l++m) I J:=by
 obtain⟨F,U,X⟩:=h.ex
 refine⟨U.own,λI J aA Z Y=>?_⟩
 obtain⟨V,W⟩:=A10 U aA Z Y (Nat.le_refl _)
 exact⟨⟨_,by rw[List.length_append,B2i];exact V,X.trans W⟩⟩
end
def MiQ(F7:Nat->Prop)(w8:World)(b:List (Int×Int))(L:List En)(t7 t49:Value)(wr:World):Prop:=
 ∃k:Nat,t49= .int .i64 (k:Int)/\k<=L.length/\MiS F7 w8 (b++A0p (L.take k)) t7 wr
def MhQ(w1:World)(H:Nat->List Nat)(d:Int×Int)(R:Int)(t7 t8:Value)(wr:World):Prop:=
 ∃(i:Nat) (b:List (Int×Int)),t8= .int .i64 (i:Int)/\i<=40/\b.length<=1+24 * i/\FiO w1 b t7 wr/\A1C H d (40-i) i b=R
section
variable {p M:Nat} {H:Nat->List Nat} {w:World}
theorem B6T(h:Rdv w p M H)(hs:Sd H M)(d:Int×Int)(x:En):Calls Tryz.prog 96 #[.pointer (some ⟨p,0,none⟩),.agg #[.int .i64 d.1,.int .i64 d.2],.agg (ea x)] w λe w'=>e= .returned (.int .i64 (B3G H d x))/\B1 B5 w B5 w':=by
 have HE:=C5Z (λV (a:B1 B5 w B5 V) i g=>A0B (h.step a) hs i g)
 have hR:B3G H d x=if x.k=1 then A1C H d 40 0 [(x.i,x.g)]else 0:=rfl
 rw[hR]
 obtain⟨xk,aC⟩:∃xk,xk=x.k:=⟨_,rfl⟩
 have cF:=C5Z aC
 rw[<-aC]
 clear h hs hR aC
 by_cases W:xk=1
 ·subst W
  rw[if_pos rfl]
  obtain⟨R,hR⟩:∃R,R=A1C H d 40 0 [(x.i,x.g)]:=⟨_,rfl⟩
  rw[<-hR]
  have HR:=C5Z hR
  obtain⟨d1,d2⟩:=d
  simp only
  clear hR
  go_enter Tryz.func96,Tryz.ntmps96
  go_wp2_with (first
   |(refine C4 (t:=35) rfl _ rfl rfl ?_;intro z4 w0 U J I;have bA:=C5Z J;have aX:=C5Z I;clear U J I)
   |(refine C4 (t:=74) rfl _ rfl rfl ?_;intro z5 w1 U J I;have aS:=C5Z J;have aG:=C5Z (aX.out.trans I);have bB:=C5Z (bA.out.over I);have c1:w1.cell? ⟨z5,3,none⟩=some (.int .i64 (1:Int)):=(by rw[J.cell,cF.out];rfl);have aI:=C5Z (Q0 J);clear U J I)
   |(refine wpList_load_mid rfl 35 (.tmp 16) rfl z5 1 rfl [.int .i64 x.i,.int .i64 x.g] _ aI.out Tryz.underlying35 rfl (by rw[B0];rfl) ?_)
   |(refine A78 rfl _ rfl x.i x.g rfl ?_;intro z7 w2 U X I;have cO:=C5Z X;have dJ:=C5Z (bB.out.over I);clear U X I c1)
   |fail)
  go_loopw [7,8] (MhQ w1 H (d1,d2) R) (λ_ t _=>40-(intOf t).toNat)
  case atStart=>exact⟨0,_,rfl,by omega,by simp,cO.out,HR.out.symm⟩
  case round=>
   obtain⟨j,b,rfl,hj,aK,aA,aB⟩:=hrel
   have aJ:=bB.out.over aA.adv
   obtain⟨A,c,rfl⟩:=aA.form
   obtain⟨n,hn⟩:∃n,n=b.length:=⟨_,rfl⟩
   rw[<-hn]at aA aK⊢
   have aO:=C5Z aA
   have dK:=C5Z aJ
   have dL:=C5Z aB
   have cB:=C5Z hn
   have cA:=C5Z aK
   have HJ:=C5Z hj
   by_cases aV:j<n
   ·by_cases cG:j<40
    ·have cK:(j:Int)<(n:Int):=by omega
     have dM:(j:Int)<40:=by omega
     have dN:(0:Int)<=(j:Int):=by omega
     have bO:j<b.length:=by rw[<-hn];exact aV
     obtain⟨bb,oo,rfl,aL⟩:=aA.at_ bO
     have hy:b[j]? =some b[j]:=List.getElem?_eq_getElem bO
     obtain⟨y,cL⟩:∃y,y=b[j]:=⟨_,rfl⟩
     rw[<-cL]at aL hy
     obtain⟨f,X⟩:∃f,40-j=f+1:=⟨39-j,by omega⟩
     have bU:A1C H (d1,d2) (40-j) j b=if y=(d1,d2)then 2 else if J5 H y.1 y.2=0 then A1C H (d1,d2) f (j+1) (b++A0p (M8 H y.1 y.2))else J5 H y.1 y.2:=by
      rw[X,A1C,hy]
     rw[aB]at bU
     have bI:=C5Z bU
     have HF:=C5Z X
     obtain⟨y1,y2⟩:=y
     simp only at aL
     have cC:=C5Z aL
     have bH:=C5Z (show wr.drew.rangeAt bb (oo+j * 2) [.int .i64 y1,.int .i64 y2]/\C3 wr.drew z4 35 #[.int .i64 d1,.int .i64 d2]from⟨aL,aJ⟩)
     clear hj aK aA aJ aB hn aV cG bO aL hy cL X bU aI aS
     go_upto_region 7 with fail
     refine D8 (S:=(λw'=>w'.rangeAt bb (oo+j * 2) [.int .i64 y1,.int .i64 y2]/\C3 w' z4 35 #[.int .i64 d1,.int .i64 d2])) (by first|with_reducible exact bH.out) (λhH=>?_)
     refine C6e 0 rfl ?_
     refine C6e 1 rfl ?_
     refine C6e 2 rfl ?_
     refine C6h 3 (.agg #[.int .i64 y1,.int .i64 y2]) rfl (C3n rfl (.tmp 31) rfl bb _ rfl (λ_ h=>h.1) Tryz.underlying35 rfl B0 rfl) ?_
     refine C6h 4 (.agg #[.int .i64 d1,.int .i64 d2]) rfl (Q8 rfl (.tmp 4) rfl z4 rfl (λ_ h=>h.2) Tryz.underlying35 rfl B0 rfl) ?_
     refine C6h 5 (.bool (decide (y1=d1/\y2=d2))) rfl (C3o rfl _ _ _ rfl rfl rfl) ?_
     refine wpAnyH_done (by kernel_rfl) ?_ _
     have aN:=C5Z (show B1 B5 w B5 wr.drew from(aG.out.trans aO.out.adv).drew)
     by_cases aD:y1=d1/\y2=d2
     ·have bG:=C5Z (show R=2 by rw[bI.out,if_pos (by rw[aD.1,aD.2])])
      rw[decide_eq_true aD]
      clear aD bH
      go_wp2_with fail
      go_ret
      exact⟨(by rw[bG.out]<;>rfl),aN.out⟩
     ·have bV:R=if J5 H y1 y2=0 then A1C H (d1,d2) f (j+1) (b++A0p (M8 H y1 y2))else J5 H y1 y2:=by
       rw[bI.out,if_neg (λe=>aD (by injection e with e1 e2;exact⟨e1,e2⟩))]
      rw[decide_eq_false aD]
      have aH:=C5Z (λV (a:B1 B5 w B5 V)=>HE.out V a y1 y2)
      obtain⟨_,bQ⟩:=A3b H y1 y2
      obtain⟨ee,cH⟩:∃ee,ee=J5 H y1 y2:=⟨_,rfl⟩
      obtain⟨L,hL⟩:∃L,L=M8 H y1 y2:=⟨_,rfl⟩
      rw[<-cH,<-hL]at aH bV
      rw[<-hL]at bQ
      obtain⟨n8,bR⟩:∃n8,n8=L.length:=⟨_,rfl⟩
      unfold EsR at aH
      rw[<-bR]at aH
      have aR:=C5Z bV
      have bC:=C5Z bQ
      have Z:=C5Z bR
      clear aD bV bQ cH hL bR bI bH HR
      by_cases he:ee=0
      ·subst he
       have cZ:=C5Z (show A1C H (d1,d2) f (j+1) (b++A0p L)=R by rw[aR.out,if_pos rfl])
       clear aR
       go_wp2_with (first
        |(refine wpList_load_mid rfl 35 (.tmp 39) rfl bb _ rfl [.int .i64 y1,.int .i64 y2] _ cC.out Tryz.underlying35 rfl (by rw[B0];rfl) ?_)
        |(go_at_call 74;refine(aH.out _ aN.out).mono ?_;rintro e w8 ⟨A8,c8,rfl,o8,a8⟩;have bD:=C5Z o8;have aM:=C5Z a8;clear o8 a8)
        |fail)
       obtain⟨F7,s7,a7⟩:=(aO.out.step (B1.refl B5 wr).drew).ex
       obtain⟨F9,s9,a9⟩:=bD.out.ex
       have cV:=C5Z (show∀k,(Value.slice A8 n8 c8).ownBlock=some k->¬F7 k fromλk hk X=>by
        have W:=s7.bd k X
        rcases a9.into k (s9.inF k hk)with y|y
        ·exact y.elim
        ·omega)
       have dA:=C5Z (show MiS F7 w8 b _ w8 from⟨⟨F7,s7.far aM.out (λ_ h _=>h),B1.refl _ _⟩⟩)
       have cM:=C5Z (show B1 B5 w1 F7 w8 from a7.over aM.out)
       clear s7 a7 s9 a9
       go_loopw [7,49] (MiQ F7 w8 b L) (λ_ t _=>n8-(intOf t).toNat)
       case atStart=>exact⟨0,rfl,Nat.zero_le _,by simpa[A0p]using dA.out⟩
       case round=>
        obtain⟨k,rfl,hk,Y⟩:=hrel
        obtain⟨Ak,ck,rfl⟩:=Y.form
        have cQ:=C5Z Y
        have HK:=C5Z hk
        obtain⟨nk,aE⟩:∃nk,nk=(b++A0p (L.take k)).length:=⟨_,rfl⟩
        rw[<-aE]at cQ Y⊢
        have cW:=C5Z aE
        by_cases aU:k<n8
        ·have aT:k<L.length:=by rw[<-Z.out];exact aU
         obtain⟨x,hx⟩:∃x,x=L[k]:=⟨_,rfl⟩
         have aC:L[k]? =some x:=by rw[hx];exact List.getElem?_eq_getElem aT
         obtain⟨_,b8,o8,dE,bT⟩:=(Y.en bD.out.rd cV.out).range Z.out aC
         subst dE
         have cD:=C5Z bT
         have bX:A0p (L.take (k+1))=A0p (L.take k)++(if x.k=1 then [(x.i,x.g)]else []):=by
          unfold A0p
          rw[List.take_succ_eq_append_getElem aT,List.filter_append,List.map_append,<-hx]
          by_cases e:x.k=1
          ·simp[e]
          ·simp[e]
         have cE:=C5Z bX
         have dP:(k:Int)<(n8:Int):=by omega
         have dQ:(n8:Int)<=24:=by have W:=bC.out;have h2:=Z.out;omega
         have bS:nk+1<=1000000:=by
          have W:=cW.out
          have h2:=cA.out
          have h3:=cB.out
          have h4:(A0p (L.take k)).length<=k:=by
           unfold A0p
           rw[List.length_map]
           exact Nat.le_trans (List.length_filter_le _ _) (by rw[List.length_take];omega)
          have h5:=bC.out
          have h6:=Z.out
          have h7:=HF.out
          rw[List.length_append]at W
          omega
         have cX:=C5Z bS
         obtain⟨kx,bP⟩:∃kx,kx=x.k:=⟨_,rfl⟩
         have aQ:=C5Z bP
         have aP:=C5Z (λV (a:B1 B5 wr B5 V)=>(MiS.step Y a).more (m:=[(x.i,x.g)]))
         have cR:=C5Z (λV (a:B1 B5 wr B5 V)=>MiS.step Y a)
         rw[<-aE]at aP
         by_cases aW:kx=1
         ·subst aW
          clear hk Y aU aE bS aT hx aC bT bX bP
          go_wp2_with (first
           |(refine B9 rfl rfl D1 ?_;intro aF w9 U J I;have bK:=C5Z U;have bJ:=C5Z J;have aZ:=C5Z I;clear U J I)
           |(refine B7 rfl _ _ rfl aF bJ.out rfl rfl C7 (C6 _) (C6 _) (L8 _) ?_;intro bY J I;have dB:=C5Z J;have aY:=C5Z (aZ.out.fresh bK.out I);have dD:bY.cell? ⟨aF,3,none⟩=some (.int .i64 (1:Int)):=(by rw[J.cell,aQ.out];rfl);have cY:=C5Z (Q0 J);clear J I)
           |(refine wpList_load_mid rfl 74 (.tmp 51) rfl b8 _ rfl (ec x) _ cD.out Tryz.underlying74 rfl (by rw[C7];rfl) ?_)
           |(refine wpList_load_mid rfl 35 (.tmp 57) rfl aF 1 rfl [.int .i64 x.i,.int .i64 x.g] _ cY.out Tryz.underlying35 rfl (by rw[B0];rfl) ?_)
           |(refine A78 rfl _ rfl x.i x.g rfl ?_;intro dU dS U X I;have cN:=C5Z X;have bZ:=C5Z (aY.out.trans I);clear U X I)
           |(refine A5r rfl _ _ rfl rfl rfl (aP.out _ bZ.out).1 cN.out.rd (B6S _) cX.out ?_;intro dG dH W h2 h3;have cT:=C5Z ((aP.out _ bZ.out).2 dG dH W h2 h3);clear W h2 h3)
           |fail)
          exact⟨⟨k+1,by simp,by have:=HK.out;have:=Z.out;omega,by rw[cE.out,if_pos (aQ.out.symm),<-List.append_assoc];exact cT.out⟩,by simp[intOf]<;>omega⟩
         ·have dR:(kx==1)=false:=by rw[beq_eq_false_iff_ne];exact aW
          have dC:=C5Z aW
          clear hk Y aU aE bS aT hx aC bT bX bP aW aP
          go_wp2_with (first
           |(refine B9 rfl rfl D1 ?_;intro aF w9 U J I;have bK:=C5Z U;have bJ:=C5Z J;have aZ:=C5Z I;clear U J I)
           |(refine B7 rfl _ _ rfl aF bJ.out rfl rfl C7 (C6 _) (C6 _) (L8 _) ?_;intro bY J I;have dB:=C5Z J;have aY:=C5Z (aZ.out.fresh bK.out I);have dD:bY.cell? ⟨aF,3,none⟩=some (.int .i64 kx):=(by rw[J.cell,aQ.out];rfl);clear J I)
           |(refine wpList_load_mid rfl 74 (.tmp 51) rfl b8 _ rfl (ec x) _ cD.out Tryz.underlying74 rfl (by rw[C7];rfl) ?_)
           |fail)
          exact⟨⟨k+1,by simp,by have:=HK.out;have:=Z.out;omega,by rw[cE.out,if_neg (by rw[<-aQ.out];exact dC.out),List.append_nil];exact cR.out _ aY.out⟩,by simp[intOf]<;>omega⟩
        ·obtain rfl:k=n8:=by have:=Z.out;omega
         have bM:=Y
         rw[List.take_of_length_le (by rw[Z.out];exact Nat.le_refl _)]at bM
         have cP:=C5Z bM
         have cJ:(b++A0p L).length<=1+24 * (j+1):=by
          rw[List.length_append]
          have W:(A0p L).length<=L.length:=by
           unfold A0p
           rw[List.length_map]
           exact List.length_filter_le _ _
          have:=bC.out
          have:=cA.out
          have:=cB.out
          omega
         have cU:=C5Z cJ
         clear hk Y aU bM cJ aE
         go_wp2_with fail
         exact⟨⟨j+1,b++A0p L,by simp,by have:=HF.out;omega,cU.out,cP.out.fi cM.out,by rw[show 40-(j+1)=f by have:=HF.out;omega];exact cZ.out⟩,by have:=HF.out;simp[intOf]<;>omega⟩
      ·have bG:=C5Z (show R=ee by rw[aR.out,if_neg he])
       have J:(ee !=0)=true:=by rw[bne_iff_ne];exact he
       clear he aR
       go_wp2_with (first
        |(refine wpList_load_mid rfl 35 (.tmp 39) rfl bb _ rfl [.int .i64 y1,.int .i64 y2] _ cC.out Tryz.underlying35 rfl (by rw[B0];rfl) ?_)
        |(go_at_call 74;refine(aH.out _ aN.out).mono ?_;rintro e w8 ⟨A8,c8,rfl,o8,a8⟩;have bD:=C5Z o8;have aM:=C5Z a8;clear o8 a8)
        |fail)
       go_ret
       exact⟨(by rw[bG.out]<;>rfl),aN.out.trans aM.out⟩
    ·have bF:=C5Z (show R=0 by
      rw[<-aB,show 40-j=0 by omega]
      rfl)
     have cK:(j:Int)<(n:Int):=by omega
     obtain rfl:j=40:=by omega
     clear hj aK aA aJ aB hn aV cG aI aS
     go_wp2_with fail
     go_ret
     exact⟨(by rw[bF.out]<;>rfl),aG.out.trans aO.out.adv⟩
   ·have bF:=C5Z (show R=0 by
     have dF:b[j]? =none:=List.getElem?_eq_none (by omega)
     rw[<-aB]
     cases 40-j with
     |zero=>rfl
     |succ f=>rw[A1C,dF])
    have cK:¬(j:Int)<(n:Int):=by omega
    clear hj aK aA aJ aB hn aV aI aS
    go_wp2_with fail
    go_ret
    exact⟨(by rw[bF.out]<;>rfl),aG.out.trans aO.out.adv⟩
 ·rw[if_neg W]
  have dO:(xk !=1)=true:=by rw[bne_iff_ne];exact W
  clear W HE
  go_enter Tryz.func96,Tryz.ntmps96
  go_wp2_with (first
   |(refine C4 (t:=35) rfl _ rfl rfl ?_;intro z4 w0 U J I;have bA:=C5Z J;have aX:=C5Z I;clear U J I)
   |(refine C4 (t:=74) rfl _ rfl rfl ?_;intro z5 w1 U J I;have aS:=C5Z J;have aG:=C5Z (aX.out.trans I);have bB:=C5Z (bA.out.over I);have c1:w1.cell? ⟨z5,3,none⟩=some (.int .i64 xk):=(by rw[J.cell,cF.out];rfl);have aI:=C5Z (Q0 J);clear U J I)
   |fail)
  go_ret
  exact⟨rfl,aG.out⟩
end
end
end Go.Proofs.YtbefmjiclpobjaaGreat
