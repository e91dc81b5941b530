import Derived.Test.YtbefmjiclpobjaaGreatMh25
import Derived.BigQuiet
namespace Go.Proofs.YtbefmjiclpobjaaGreat
set_option maxHeartbeats 6400000
set_option maxRecDepth 3000
section
open Go.RowKit Go.Maps
def E8(H H0:Nat->List Nat):Nat->Option (List Nat):=λj=>if H j=H0 j then none else some (H j)
theorem B8Q{A O:Nat->Option (List Nat)}{L:Nat->List Nat}(h:∀i,(O i).isSome=true->(A i).isSome=true):A4o A (vwH O L)=E8 (vwH A L) (vwH O L):=by
 funext j
 unfold A4o E8
 cases hA:A j with
 |none=>
  have U:O j=none:=by
   cases hq:O j with
   |none=>rfl
   |some x=>have:=h j (by rw[hq];rfl);rw[hA]at this;cases this
  have I:vwH A L j=L j:=by unfold vwH;rw[hA];rfl
  have J:vwH O L j=L j:=by unfold vwH;rw[U];rfl
  rw[I,J,if_pos rfl,if_neg (by simp)]
 |some b=>
  have I:vwH A L j=b:=by unfold vwH;rw[hA];rfl
  rw[I]
  by_cases e:b=vwH O L j
  ·rw[if_pos (by rw[e]),if_pos e]
  ·rw[if_neg (λx=>e (Option.some.inj x)),if_neg e]
def B11(E:Ev)(H:Nat->List Nat)(e:Int):(DS×LS)×Int:=
 if e=0 then
  if(V5 E.s E.n E.N E.g (D5 (E8 H E.H) E.M)).2=0 then N8 (V5 E.s E.n E.N E.g (D5 (E8 H E.H) E.M)).1.1 (V5 E.s E.n E.N E.g (D5 (E8 H E.H) E.M)).1.2
  else V5 E.s E.n E.N E.g (D5 (E8 H E.H) E.M)
 else((E.s,E.g),e)
def Ev.at_(E:Ev)(F:Nat->Prop)(s:DS)(g:LS)(O:Nat->Option (List Nat)):Ev:=⟨F,E.d,E.l,E.b,E.n,E.N,s,g,E.o,E.mo,O⟩
def EF(E:Ev)(c m:Nat):Nat->Prop:=λk=>E.U k\/k=E.mo\/CF c m k
def OtR(E:Ev)(r:(DS×LS)×Int)(I:Nat->Option (List Nat)):Prop:=
 I=E.O\/∃T B,r=N8 (V5 E.s E.n E.N E.g (D5 T E.M)).1.1 (V5 E.s E.n E.N E.g (D5 T E.M)).1.2/\r.2≠0/\(V5 E.s E.n E.N E.g (D5 T E.M)).2=0/\I=B10 E.O B/\(∀i,B i=none\/B i=some (E.H i))/\∀i,(T i).isSome=true->(B i).isSome=true
def A43(w:World)(E:Ev)(c m:Nat)(r:(DS×LS)×Int)(x:Ending)(w':World):Prop:=
 x= .returned (.int .i64 r.2)/\∃F' I,So w' (E.at_ F' r.1.1 r.1.2 I)/\OtR E r I/\A8 (EF E c m) w (EF (E.at_ F' r.1.1 r.1.2 I) c m) w'
theorem So.moved{w w':World}{E:Ev}{F':Nat->Prop}{s:DS}{g:LS}(h:So w E)(hr:Rs w' F' E.d E.l E.b E.n E.N s g)(I:A8 (UF E.F E.l E.b) w (UF F' E.l E.b) w')(X:AOk E.M g.A):So w' (E.at_ F' s g E.O):=by
 obtain⟨b1,V,W⟩:=h.bd
 have Z:¬UF F' E.l E.b E.o:=λU=>by
  rcases I.into _ U with x|x
  ·exact h.so x
  ·omega
 have Y:¬UF F' E.l E.b E.mo:=λU=>by
  rcases I.into _ U with x|x
  ·exact h.sm x
  ·omega
 have J:=h.blk.keep (I.block _ V h.so)
 exact⟨⟨hr,h.vu.hn,X,J.cell 0,J.cell 1,J.lt,h.vu.mp.keep (I.block _ W h.sm),h.vu.ok⟩,J,Z,Y⟩
theorem So.otherwise{w w':World}{E:Ev}{J:Nat->Option (List Nat)}(h:So w E)(X:Mp w' E.mo E.M J)(U:A8 (M0 E.mo) w (M0 E.mo) w')(W:AOk E.M J):So w' (E.at_ E.F E.s E.g J):=by
 obtain⟨Z,V,b3⟩:=h.bd
 have Y:E.o≠E.mo:=h.vu.mp.ne h.blk
 have I:=h.blk.keep (U.block _ V Y)
 exact⟨⟨⟨h.vu.rs.dk.far U (λk x y=>by unfold M0 at x;subst x;exact h.sm (.inl y)),h.vu.rs.lg.far U (λk x y=>by unfold M0 at x;subst x;exact h.sm (.inr y)),h.vu.rs.sep⟩,h.vu.hn,h.vu.lA,I.cell 0,I.cell 1,I.lt,X,W⟩,I,h.so,h.sm⟩
theorem So.m_le{w:World}{E:Ev}(h:So w E):E.M<=4096:=by
 have:=h.vu.hn
 unfold Ev.M
 omega
theorem So.m_ne{w:World}{E:Ev}{k:Nat}(h:So w E)(J:w.heap.size<=k):E.mo≠k:=λx=>by
 have I:=h.bd.2.2
 omega
theorem C09{M:Nat}{O B:Nat->Option (List Nat)}(h:AOk M O)(k:AOk M B):AOk M (B10 O B):=λi x I=>by
 unfold B10 at I
 split at I
 ·exact k i x I
 ·exact h i x I
theorem A8m{w w1 w2 w3:World}{E:Ev}{c m:Nat}{V W:Nat->Prop}{s:DS}{g:LS}{O:Nat->Option (List Nat)}(I:A8 (CF c m) w (CF c m) w1)(Y:A8 (UF E.F E.l E.b) w1 (UF V E.l E.b) w2)(Z:A8 (UF V E.l E.b) w2 (UF W E.l E.b) w3):A8 (EF E c m) w (EF (E.at_ W s g O) c m) w3:=by
 have J:=Y.trans Z
 refine⟨J.os.trans I.os,J.tape.trans I.tape,J.output.trans I.output,Nat.le_trans I.size J.size,λk U X=>?_,λk U=>?_⟩
 ·exact(J.block k (Nat.lt_of_lt_of_le U I.size) (λx=>X (.inl x))).trans (I.block k U (λx=>X (.inr (.inr x))))
 ·rcases U with x|x|x
  ·rcases J.into k x with y|y
   ·exact .inl (.inl y)
   ·exact .inr (Nat.le_trans I.size y)
  ·exact .inl (.inr (.inl x))
  ·exact .inl (.inr (.inr x))
theorem B8R{w w1 w2 w3 w4:World}{E:Ev}{c m:Nat}{U V:Nat->Prop}{s:DS}{g:LS}{O:Nat->Option (List Nat)}(W:A8 (CF c m) w (CF c m) w1)(X:A8 (UF E.F E.l E.b) w1 (UF U E.l E.b) w2)(Y:A8 (UF U E.l E.b) w2 (UF V E.l E.b) w3)(I:A8 (M0 E.mo) w3 (M0 E.mo) w4):A8 (EF E c m) w (EF (E.at_ V s g O) c m) w4:=by
 have a:=A8m (E:=E) (s:=s) (g:=g) (O:=O) W X Y
 exact a.trans ⟨I.os,I.tape,I.output,I.size,λk J Z=>I.block k J (λx=>Z (.inr (.inl x))),λk J=>.inl J⟩
theorem C1T{w:World}{E:Ev}{c m:Nat}{H:Nat->List Nat}{e:Int}(h:Cg w E c m H e)(aW:∀i,i<E.M->(E.H i).length=128/\∀x∈E.H i,x<256)(hw:e=0->WOk E.n E.N E.s E.g)
 (hA:e=0->AOk E.M (V5 E.s E.n E.N E.g (D5 (E8 H E.H) E.M)).1.2.A):Calls Tryz.prog 46 #[.pointer (some ⟨c,0,none⟩)] w (A43 w E c m (B11 E H e)):=by
 have HC:=C3t h
 have aJ:=C3t (B68 h aW)
 unfold C01 at aJ
 have bQ:=C3t aW
 have HW:=C3t hw
 have HA:=C3t hA
 clear h aW hw hA
 by_cases he:e=0
 ·subst he
  have aF:=C3t (aJ.out.mono (R':=λx w'=>∃I,x= .returned (.map (some I))/\So w' E/\C0 w' c 175 #[.pointer (some ⟨E.l,0,none⟩),.map (some m),.pointer (some ⟨E.o,0,none⟩),.int .i64 0]/\Mp w' m E.M (E8 H E.H)/\AOk E.M (E8 H E.H)/\(∃B,Mp w' I E.M B/\AOk E.M B/\(∀i,B i=none\/B i=some (E.H i))/\∀i,(E8 H E.H i).isSome=true->(B i).isSome=true)/\w.heap.size<=I/\A8 (CF c m) w (CF c m) w'/\w'.cell? ⟨c,3,none⟩=some (.int .i64 0)) λx w' V=>by
   obtain⟨I,A,h1,h2,h3,h4,h5,h6,h7,h8,h9,aV⟩:=V
   have et:A4o A E.H=E8 H E.H:=by rw[h6];exact B8Q h8
   refine⟨I,h1,h2,h3,by rw[<-et];exact h4,?_,⟨B1t A E.H,h5,?_,λi=>(by unfold B1t;split;exact .inr rfl;exact .inl rfl),λi hi=>(by
    rw[<-et]at hi
    unfold B1t
    have ha:(A i).isSome=true:=(by
     unfold A4o at hi
     split at hi
     ·cases hi
     ·exact hi)
    rw[if_pos ha];rfl)⟩,h9,aV,h3.cell 3⟩
   ·rw[<-et]
    intro i x V
    unfold A4o at V
    split at V
    ·cases V
    ·exact h7 i x V
   ·intro i x V
    unfold B1t at V
    split at V
    ·rename_i hs
     obtain⟨y,hy⟩:=Option.isSome_iff_exists.1 hs
     have hi:=(h7 i y hy).1
     cases V
     exact⟨hi,bQ.out i hi⟩
    ·cases V)
  obtain⟨T,hT⟩:∃T,T=E8 H E.H:=⟨_,rfl⟩
  have hE:B11 E H 0=if(V5 E.s E.n E.N E.g (D5 T E.M)).2=0 then N8 (V5 E.s E.n E.N E.g (D5 T E.M)).1.1 (V5 E.s E.n E.N E.g (D5 T E.M)).1.2 else V5 E.s E.n E.N E.g (D5 T E.M):=by rw[hT];rfl
  rw[hE]
  have aB:=C3t (HA.out rfl)
  rw[<-hT]at aF aB
  have aE:=C3t (λW (so:So W E) (b:C0 W c 175 #[.pointer (some ⟨E.l,0,none⟩),.map (some m),.pointer (some ⟨E.o,0,none⟩),.int .i64 0]) (hm:Mp W m E.M T) (ok:AOk E.M T)=>B8P b HC.out.sc.1 hm so.vu.hn.2.2.2 ok so.vu.rs (HW.out rfl))
  unfold WrR at aE
  have bC:=C3t (show V5 E.s E.n E.N E.g (D5 T (E.N-2-E.n))=V5 E.s E.n E.N E.g (D5 T E.M)from rfl)
  rw[bC.out]at aE
  obtain⟨R,hR⟩:∃R,R=V5 E.s E.n E.N E.g (D5 T E.M):=⟨_,rfl⟩
  have bD:=C3t hR
  rw[<-hR]at aE aB⊢
  obtain⟨⟨s1,g1⟩,er⟩:=R
  simp only at aE aB⊢
  clear hE hT hR HA aJ bC
  by_cases aR:er=0
  ·subst aR
   rw[if_pos rfl]
   have aO:=C3t (λW F1 (r:Rs W F1 E.d E.l E.b E.n E.N s1 g1)=>B54 E.l E.b E.d E.n E.N g1 F1 s1 W r)
   unfold WrR at aO
   have aP:=C3t (show(N8 s1 g1).1.2.A=g1.A by unfold N8;split<;>rfl)
   obtain⟨R,hR⟩:∃R,R=N8 s1 g1:=⟨_,rfl⟩
   have bR:=C3t hR
   rw[<-hR]at aO aP⊢
   obtain⟨⟨s2,g2⟩,eq⟩:=R
   simp only at aO aP⊢
   clear hR
   by_cases aQ:eq=0
   ·subst aQ
    go_enter Tryz.func46,Tryz.ntmps46
    go_wp2_with (first
     |(go_at_call 105;refine aF.out.mono ?_;rintro r w1 ⟨I,rfl,Y,b1,m1,aC,hB,aG,X,c3⟩;have aA:=C3t Y;have Z:=C3t b1;have aK:=C3t m1;have aL:=C3t aC;have aD:=C3t X;clear Y b1 m1 aC hB aG X)
     |(go_at_call 106;refine(aE.out w1 aA.out Z.out aK.out aL.out).mono ?_;rintro r w2 ⟨rfl,F2,r2,J⟩;have aU:=C3t r2;have aH:=C3t J;have aM:=C3t (aA.out.moved r2 J aB.out);have aI:=C3t (Z.out.keep (J.block c Z.out.lt HC.out.sc.1));have bT:w2.cell? ⟨c,0,none⟩=some (.pointer (some ⟨E.l,0,none⟩)):=aI.out.cell 0;clear r2 J c3)
     |(go_at_call 107;refine(aO.out w2 F2 aU.out).mono ?_;rintro r w3 ⟨rfl,F3,r3,a3⟩;have aN:=C3t (aM.out.moved r3 a3 (by rw[aP.out];exact aB.out));have aS:=C3t a3;clear r3 a3)
     |fail)
    go_ret
    exact⟨rfl,F3,E.O,aN.out,.inl rfl,A8m aD.out aH.out aS.out⟩
   ·have bJ:(eq !=0)=true:=by rw[bne_iff_ne];exact aQ
    have bP:=C3t aQ
    clear aQ
    go_enter Tryz.func46,Tryz.ntmps46
    go_wp2_with (first
     |(go_at_call 105;refine aF.out.mono ?_;rintro r w1 ⟨I,rfl,Y,b1,m1,aC,hB,aG,X,c3⟩;have aA:=C3t Y;have Z:=C3t b1;have aK:=C3t m1;have aL:=C3t aC;have aD:=C3t X;obtain⟨B,bG,bH,bI⟩:=hB;have aY:=C3t bI;clear bI;have aT:=C3t bG;have aX:=C3t bH;have aZ:=C3t aG;clear Y b1 m1 aC bG bH aG X)
     |(go_at_call 106;refine(aE.out w1 aA.out Z.out aK.out aL.out).mono ?_;rintro r w2 ⟨rfl,F2,r2,J⟩;have aU:=C3t r2;have aH:=C3t J;have aM:=C3t (aA.out.moved r2 J aB.out);have aI:=C3t (Z.out.keep (J.block c Z.out.lt HC.out.sc.1));have bB:=C3t (show∀z,z<w1.heap.size->¬E.U z->¬UF F2 E.l E.b z fromλz hz hu V=>(by rcases J.into z V with y|y;exact hu y;omega));have bF:=C3t (show¬E.U I fromλhu=>(by have h1:=HC.out.so.bd.1 _ hu;have h2:=aZ.out;omega));have bA:=C3t (aT.out.keep (J.block I aT.out.lt bF.out));have bT:w2.cell? ⟨c,0,none⟩=some (.pointer (some ⟨E.l,0,none⟩)):=aI.out.cell 0;clear r2 J c3)
     |(go_at_call 107;refine(aO.out w2 F2 aU.out).mono ?_;rintro r w3 ⟨rfl,F3,r3,a3⟩;have aN:=C3t (aM.out.moved r3 a3 (by rw[aP.out];exact aB.out));have aS:=C3t a3;have bM:=C3t (aI.out.keep (a3.block c aI.out.lt (bB.out c Z.out.lt HC.out.sc.1)));have bO:=C3t (bA.out.keep (a3.block I bA.out.lt (bB.out I aT.out.lt bF.out)));have bV:w3.cell? ⟨c,2,none⟩=some (.pointer (some ⟨E.o,0,none⟩)):=bM.out.cell 2;have bU:w3.cell? ⟨E.o,1,none⟩=some (.map (some E.mo)):=aN.out.vu.c1;clear r3 a3)
     |(go_at_call 108;refine(C08 (O:=E.O) (B:=B) aN.out.vu.mp bO.out (HC.out.so.m_ne aZ.out) HC.out.so.m_le aX.out).mono ?_;rintro r w4 ⟨rfl,m4,a4⟩;have bS:=C3t (aN.out.otherwise m4 a4 (C09 HC.out.so.vu.ok aX.out));have bK:=C3t a4;clear m4 a4)
     |fail)
    go_ret
    exact⟨rfl,F3,_,bS.out,.inr ⟨T,B,(by rw[<-bD.out];exact bR.out),bP.out,(by rw[<-bD.out]),rfl,aY.out.1,aY.out.2⟩,B8R aD.out aH.out aS.out bK.out⟩
  ·rw[if_neg aR]
   have bJ:(er !=0)=true:=by rw[bne_iff_ne];exact aR
   clear aR
   go_enter Tryz.func46,Tryz.ntmps46
   go_wp2_with (first
    |(go_at_call 105;refine aF.out.mono ?_;rintro r w1 ⟨I,rfl,Y,b1,m1,aC,hB,aG,X,c3⟩;have aA:=C3t Y;have Z:=C3t b1;have aK:=C3t m1;have aL:=C3t aC;have aD:=C3t X;clear Y b1 m1 aC hB aG X)
    |(go_at_call 106;refine(aE.out w1 aA.out Z.out aK.out aL.out).mono ?_;rintro r w2 ⟨rfl,F2,r2,J⟩;have aH:=C3t J;have aM:=C3t (aA.out.moved r2 J aB.out);clear r2 J c3)
    |fail)
   go_ret
   exact⟨rfl,F2,E.O,aM.out,.inl rfl,A8m aD.out aH.out (A8.refl _ _)⟩
 ·have hE:B11 E H e=((E.s,E.g),e):=by unfold B11;rw[if_neg he]
  rw[hE]
  have bJ:(e !=0)=true:=by rw[bne_iff_ne];exact he
  have aF:=C3t (aJ.out.mono (R':=λx w'=>∃I,x= .returned (.map (some I))/\So w' E/\A8 (CF c m) w (CF c m) w'/\w'.cell? ⟨c,3,none⟩=some (.int .i64 e)) λx w' V=>by
   obtain⟨I,A,h1,h2,h3,h4,h5,h6,h7,h8,h9,aV⟩:=V
   exact⟨I,h1,h2,aV,h3.cell 3⟩)
  clear hE he aJ HA HW
  go_enter Tryz.func46,Tryz.ntmps46
  go_wp2_with (first
   |(go_at_call 105;refine aF.out.mono ?_;rintro r w1 ⟨I,rfl,Y,X,c3⟩;have aA:=C3t Y;have aD:=C3t X;clear Y X)
   |fail)
  go_ret
  exact⟨rfl,E.F,E.O,aA.out,.inl rfl,A8m aD.out (A8.refl _ _) (A8.refl _ _)⟩
end
section
open Go.RowKit
theorem B6M:(Tryz.prog.info? 9).map (λi=>(i.zero,i.size,i.bytes))=some (some (.string ByteArray.empty),1,16):=by kernel_rfl
theorem C0.rdT{w:World}{z n:Nat}{t:TypeId}{C:List Value}(h:C0 w z t C.toArray)(I:C.length=n)(U:n<=100)(V:0<n):Rd w 1 (.slice (some ⟨z,0,none⟩) n n) n C:=
 ⟨_,n,rfl,Nat.le_refl _,by unfold maxLen;omega,by simpa using I,λe=>(by cases e),λ_=>⟨_,rfl,h.lt,λj u J=>by
  have e:(⟨z,0,none⟩:Addr).add j=⟨z,j,none⟩:=by rw[add_none,Nat.zero_add]
  rw[e]
  have:=h.cell j
  rw[List.getElem?_toArray]at this
  rw[this];exact J⟩⟩
section
variable {ops:Array Oper} {rest:List Oper} {o:Oper} {a:Act} {w:World} {Q:Exit->Act->World->Prop}
theorem Q4(J:o.guard=none)(x:Operand)(V:o.op= .buildSlice 218 1 #[(0,x)])(s:ByteArray)(W:a.eval x= .string s)
 (h:∀z w',w.heap.size<=z->Rd w' 1 (.slice (some ⟨z,0,none⟩) 1 1) 1 ([s].map Value.string)->A8 B0 w B0 w'->wpList Tryz.prog ops Q rest (a.put o.dst (.slice (some ⟨z,0,none⟩) 1 1)) w'):wpList Tryz.prog ops Q (o::rest) a w:=by
 obtain⟨Y,U,X,I,_⟩:=info_parts B6M
 refine wpList_buildSlice J 218 9 1 _ V #[.string s] Y _ Tryz.underlying218 U X (by rw[I];decide) (by rw[I];decide) ?_ (h _ _ (Nat.le_refl _) (C0.rdT (C:=[.string s]) (C0.new _ _ _) rfl (by decide) (by decide)) ((A8.refl _ _).alloc _))
 rw[I]
 simp[W,Instr.fill,Value.cells,Array.range]
 all_goals rfl
end
section
variable {p M:Nat} {H:Nat->List Nat} {w:World}
theorem A8n(h:Rdv w p M H):Calls Tryz.prog 73 #[.pointer (some ⟨p,0,none⟩)] w λe w'=>e= .returned (.bool true)/\w=w':=by
 obtain⟨l,I,_⟩:=h.homes _ _ (A8.refl B0 w)
 exact C0n p l w I
end
end
section
open Go.RowKit Go.Maps
section
variable {p M:Nat} {H:Nat->List Nat} {w:World}
noncomputable def A10(H:Nat->List Nat)(i g a:Int):Int:=
 if 0<=a/\a<8 then(if U2 H i g 2=0 then A0Y H ((fileX H i g).a a.toNat)else U2 H i g 2)else 2
noncomputable def A3j(H:Nat->List Nat)(i g a:Int):ByteArray:=if A10 H i g a=0 then A2k H ((fileX H i g).a a.toNat)else⟨#[]⟩
noncomputable def A3k(H:Nat->List Nat)(i g a:Int):Nat:=if A10 H i g a=0 then(fileX H i g).v else 0
theorem B6N(X:L6)(j:Nat)(I:j<8):(ic X)[3+j]? =some (.int .i64 (X.a j)):=by
 have h:j=0\/j=1\/j=2\/j=3\/j=4\/j=5\/j=6\/j=7:=by omega
 rcases h with rfl|rfl|rfl|rfl|rfl|rfl|rfl|rfl<;>rfl
theorem C0A(h:Rdv w p M H)(hs:Sd H M)(i g a:Int):Calls Tryz.prog 34 #[.pointer (some ⟨p,0,none⟩),.agg #[.int .i64 i,.int .i64 g],.int .i64 a] w λe w'=>e= .returned (.tuple #[.string (A3j H i g a),.int .u64 (A3k H i g a:Int),.int .i64 (A10 H i g a)])/\A8 B0 w B0 w':=by
 have HM:=C3t (λV (a:A8 B0 w B0 V)=>A8n (h.step a))
 have aE:=C3t (λV=>A4k a V)
 by_cases aA:0<=a/\a<8
 ·obtain⟨j,rfl⟩:∃j:Nat,a=(j:Int):=⟨a.toNat,by omega⟩
  have hj:j<8:=by omega
  have aF:(decide (0<=(j:Int))&&decide ((j:Int)<8))=true:=by rw[decide_eq_true aA.1,decide_eq_true aA.2];rfl
  rw[aF]at aE
  have HF:=C3t (λV (a:A8 B0 w B0 V)=>A5D (h.step a) hs i g 2)
  unfold A7Z at HF
  by_cases Z:U2 H i g 2=0
  ·obtain⟨_,_,h3⟩:=A4G Z
   have hp:=(A3h hs i g).2.1 j hj
   have HD:=C3t (λV (a:A8 B0 w B0 V)=>C0t (h.step a) hs _ hp)
   rw[h3,Z]at HF
   have Y:A10 H i g (j:Int)=A0Y H ((fileX H i g).a j):=by unfold A10;rw[if_pos aA,if_pos Z];rfl
   have eS:A3j H i g (j:Int)=if A0Y H ((fileX H i g).a j)=0 then A2k H ((fileX H i g).a j)else⟨#[]⟩:=by unfold A3j;rw[Y];rfl
   have eV:A3k H i g (j:Int)=if A0Y H ((fileX H i g).a j)=0 then(fileX H i g).v else 0:=by unfold A3k;rw[Y]
   rw[Y,eS,eV]
   obtain⟨X,hX⟩:∃X,X=fileX H i g:=⟨_,rfl⟩
   rw[<-hX]at HF HD⊢
   obtain⟨A,hA⟩:∃A,A=X.a j:=⟨_,rfl⟩
   have HP:=C3t (show(ic X)[3+j]? =some (.int .i64 A)by rw[hA];exact B6N X j hj)
   rw[<-hA]at HD⊢
   obtain⟨er,aJ⟩:∃er,er=A0Y H A:=⟨_,rfl⟩
   obtain⟨S,hS⟩:∃S,S=A2k H A:=⟨_,rfl⟩
   rw[<-aJ,<-hS]at HD⊢
   have aP:(0:Int)<=(j:Int):=by omega
   have aO:(j:Int)<8:=by omega
   obtain⟨V,hV⟩:∃V,V=X.v:=⟨_,rfl⟩
   rw[<-hV]
   have aL:=C3t (show(ic X)[2]? =some (.int .u64 (V:Int))by rw[hV];rfl)
   clear hX hA aJ hS hp h3 Z aA aF h hs Y eS eV hV hj
   by_cases h0:er=0
   ·subst h0
    rw[if_pos rfl,if_pos rfl]
    go_enter Tryz.func34,Tryz.ntmps34
    go_wp2_with (first
     |(refine C4 rfl _ rfl rfl ?_;intro z0 w0 U J I;have aD:=C3t J;have W:=C3t I;clear U J I)
     |(go_at_call 73;refine(HM.out _ W.out).mono ?_;rintro e w2 ⟨rfl,rfl⟩)
     |(go_at_call 85;refine(aE.out _).mono ?_;rintro e w2 ⟨rfl,rfl⟩)
     |(refine C3 (t:=35) rfl _ rfl z0 aD.out rfl Tryz.underlying35 rfl B1 rfl ?_)
     |(go_at_call 86;refine(HF.out _ W.out).mono ?_;rintro e w2 ⟨rfl,I⟩;have aB:=C3t (W.out.trans I);clear I)
     |(refine B6 rfl rfl C6 ?_;intro z5 w5 U J I;have aH:=C3t J;have aG:=C3t (aB.out.trans I);have aI:=C3t (Nat.le_trans aB.out.size U);clear U J I)
     |(refine B5 rfl _ _ rfl z5 aH.out rfl rfl B7 (C2 _) (C2 _) (D7 _) ?_;intro w6 J I;have aM:=C3t J;have aC:=C3t (aG.out.fresh aI.out I);have c6:w6.cell? ⟨z5,3+j,none⟩=some (.int .i64 A):=(by rw[J.cell];exact HP.out);clear J I)
     |(go_at_call 87;refine(HD.out _ aC.out).mono ?_;rintro e w7 ⟨rfl,I⟩;have aK:=C3t (aC.out.trans I);have aN:=C3t (aM.out.over I);have c7:w7.cell? ⟨z5,2,none⟩=some (.int .u64 (V:Int)):=(by rw[aN.out.cell];exact aL.out);clear I c6)
     |fail)
    go_quiet (fail)
    go_wp2
    exact bodyPost_ret (results_tmp3 rfl _ _ _) rfl ⟨rfl,aK.out.drewN _⟩
   ·rw[if_neg h0,if_neg h0]
    have J:(er !=0)=true:=by rw[bne_iff_ne];exact h0
    clear h0
    go_enter Tryz.func34,Tryz.ntmps34
    go_wp2_with (first
     |(refine C4 rfl _ rfl rfl ?_;intro z0 w0 U J I;have aD:=C3t J;have W:=C3t I;clear U J I)
     |(go_at_call 73;refine(HM.out _ W.out).mono ?_;rintro e w2 ⟨rfl,rfl⟩)
     |(go_at_call 85;refine(aE.out _).mono ?_;rintro e w2 ⟨rfl,rfl⟩)
     |(refine C3 (t:=35) rfl _ rfl z0 aD.out rfl Tryz.underlying35 rfl B1 rfl ?_)
     |(go_at_call 86;refine(HF.out _ W.out).mono ?_;rintro e w2 ⟨rfl,I⟩;have aB:=C3t (W.out.trans I);clear I)
     |(refine B6 rfl rfl C6 ?_;intro z5 w5 U J I;have aH:=C3t J;have aG:=C3t (aB.out.trans I);have aI:=C3t (Nat.le_trans aB.out.size U);clear U J I)
     |(refine B5 rfl _ _ rfl z5 aH.out rfl rfl B7 (C2 _) (C2 _) (D7 _) ?_;intro w6 J I;have aC:=C3t (aG.out.fresh aI.out I);have c6:w6.cell? ⟨z5,3+j,none⟩=some (.int .i64 A):=(by rw[J.cell];exact HP.out);clear J I)
     |(go_at_call 87;refine(HD.out _ aC.out).mono ?_;rintro e w7 ⟨rfl,I⟩;have aK:=C3t (aC.out.trans I);clear I c6)
     |fail)
    exact bodyPost_ret (results_tmp3 rfl _ _ _) rfl ⟨rfl,aK.out⟩
  ·have Y:A10 H i g (j:Int)=U2 H i g 2:=by unfold A10;rw[if_pos aA,if_neg Z]
   have eS:A3j H i g (j:Int)=⟨#[]⟩:=by unfold A3j;rw[Y,if_neg Z]
   have eV:A3k H i g (j:Int)=0:=by unfold A3k;rw[Y,if_neg Z]
   rw[Y,eS,eV]
   obtain⟨er,aJ⟩:∃er,er=U2 H i g 2:=⟨_,rfl⟩
   obtain⟨X,hX⟩:∃X,X=A99 H i g 2:=⟨_,rfl⟩
   rw[<-aJ]at HF Z⊢
   rw[<-hX]at HF
   have J:(er !=0)=true:=by rw[bne_iff_ne];exact Z
   clear aJ hX Z aA aF h hs Y eS eV hj
   go_enter Tryz.func34,Tryz.ntmps34
   go_wp2_with (first
    |(refine C4 rfl _ rfl rfl ?_;intro z0 w0 U J I;have aD:=C3t J;have W:=C3t I;clear U J I)
    |(go_at_call 73;refine(HM.out _ W.out).mono ?_;rintro e w2 ⟨rfl,rfl⟩)
    |(go_at_call 85;refine(aE.out _).mono ?_;rintro e w2 ⟨rfl,rfl⟩)
    |(refine C3 (t:=35) rfl _ rfl z0 aD.out rfl Tryz.underlying35 rfl B1 rfl ?_)
    |(go_at_call 86;refine(HF.out _ W.out).mono ?_;rintro e w2 ⟨rfl,I⟩;have aB:=C3t (W.out.trans I);clear I)
    |(refine B6 rfl rfl C6 ?_;intro z5 w5 U J I;have aH:=C3t J;have aG:=C3t (aB.out.trans I);have aI:=C3t (Nat.le_trans aB.out.size U);clear U J I)
    |(refine B5 rfl _ _ rfl z5 aH.out rfl rfl B7 (C2 _) (C2 _) (D7 _) ?_;intro w6 J I;have aC:=C3t (aG.out.fresh aI.out I);clear J I)
    |fail)
   exact bodyPost_ret (results_tmp3 rfl _ _ _) rfl ⟨rfl,aC.out⟩
 ·have Y:A10 H i g a=2:=by unfold A10;rw[if_neg aA]
  have eS:A3j H i g a=⟨#[]⟩:=by unfold A3j;rw[Y];rfl
  have eV:A3k H i g a=0:=by unfold A3k;rw[Y];rfl
  have aF:(decide (0<=a)&&decide (a<8))=false:=by
   rw[Bool.and_eq_false_iff]
   by_cases h1:0<=a
   ·right;exact decide_eq_false (λx=>aA ⟨h1,x⟩)
   ·left;exact decide_eq_false h1
  rw[aF]at aE
  rw[Y,eS,eV]
  clear h hs aA aF Y eS eV
  go_enter Tryz.func34,Tryz.ntmps34
  go_wp2_with (first
   |(refine C4 rfl _ rfl rfl ?_;intro z0 w0 U J I;have aD:=C3t J;have W:=C3t I;clear U J I)
   |(go_at_call 73;refine(HM.out _ W.out).mono ?_;rintro e w2 ⟨rfl,rfl⟩)
   |(go_at_call 85;refine(aE.out _).mono ?_;rintro e w2 ⟨rfl,rfl⟩)
   |fail)
  exact bodyPost_ret (results_tmp3 rfl _ _ _) rfl ⟨rfl,W.out⟩
end
end
section
open Go.RowKit
section
variable {s:CS} {M:Nat}
theorem B2M{a:Int}{l:List Nat}(h:(s.place M a l).e=0):s.e=0:=by
 unfold CS.place at h
 split at h
 ·split at h
  ·exact h
  ·exact(A0o h).1
 ·split at h
  ·exact(A0o h).1
  ·exact h
theorem C1U{x:L6}{bs:List (List Nat)}:∀j,(fl M x bs s j).1.e=0->s.e=0
 |0,h=>h
 |j+1,h=>C1U j (B2M h)
theorem B6P{x:L6}{bs:List (List Nat)}(h:Sw s.H M)(J:A0a bs)(I:∀j,j<8->x.a j=0\/(42<=x.a j/\x.a j<M)):∀j,j<=8->(fl M x bs s j).1.e=0->∀i,i<8->(fl M x bs s j).2 i=0\/(42<=(fl M x bs s j).2 i/\(fl M x bs s j).2 i<M)
 |0,_,_,i,hi=>I i hi
 |j+1,hj,he,i,hi=>by
  have U:=B6P h J I j (by omega) (B2M he) i hi
  show(if i=j then _ else _)=0\/(42<=(if i=j then _ else _)/\(if i=j then _ else _)<(M:Int))
  split
  ·rcases A3N (s:=(fl M x bs s j).1) (l:=bs.getD j []) (A5M h J I j (by omega)) (I j (by omega))with y|y|⟨y,_⟩
   ·exact .inl y
   ·exact .inr y
   ·exact absurd he y
  ·exact U
theorem C0B{x:L6}(h:A6z x=0):okI x:=by
 unfold A6z at h
 split at h
 ·assumption
 ·cases h
theorem B12(h:Sw s.H M){i:Nat}{x:L6}(W:WfI x)(hi:s.e=0->1<=i/\i<=40)(V:s.e=0->∀j,j<8->x.a j=0\/(42<=x.a j/\x.a j<M)):Sw (s.set i x).H M:=by
 show Sw (if L7 s.e (A6z x)=0 then M4 s.H (1+i) (secI x)else s.H) M
 split
 ·rename_i U
  obtain⟨I,J⟩:=A0o U
  exact(h.setI (hi I) W (C0B J) (V I)).1
 ·exact h
theorem B6Q(h:Sw s.H M)(i g:Int)(l:List En):Sw (s.setEn M i g l).H M:=by
 obtain⟨V,J,_⟩:=A3h h.sd i g
 have I:Sw ((s.note (bE l)).note (fileE s.H i g)).H M:=h
 unfold CS.setEn
 refine B12 (A5M I (A4H l) J 8 (Nat.le_refl _)) (A9F I (A4H l) J V) (λe=>?_) (λe=>B6P I (A4H l) J 8 (Nat.le_refl _) e)
 have U:=C1U 8 e
 have:=A09 (A0o U).2
 omega
theorem B6R(h:Sw s.H M)(i g:Int)(x:En):Sw (s.enter M i g x).H M:=B6Q (s:=s.note _) h i g _
end
end
section
open Go.RowKit Go.Maps
def EO(E:Ev):Nat->Prop:=λk=>E.U k\/k=E.mo
def OdR(w:World)(E:Ev)(R:(DS×LS)×Int)(w':World):Prop:=
 ∃F' I,So w' (E.at_ F' R.1.1 R.1.2 I)/\OtR E R I/\A8 (EO E) w (EO (E.at_ F' R.1.1 R.1.2 I)) w'
def LOk(E:Ev)(s:CS):Prop:=s.e=0->WOk E.n E.N E.s E.g/\AOk E.M (V5 E.s E.n E.N E.g (D5 (E8 s.H E.H) E.M)).1.2.A
noncomputable def T1(E:Ev)(s:CS):(DS×LS)×Int:=B11 E s.H s.e
section
variable {w w1 w3 w4:World} {E:Ev} {c m:Nat} {R:(DS×LS)×Int} {x:Ending} {s:CS}
theorem A43.op(h:A43 w3 E c m R x w4)(I:A8 B0 w B0 w1)(hc:w.heap.size<=c)(hm:w.heap.size<=m)(J:A8 (CF c m) w1 (CF c m) w3):x= .returned (.int .i64 R.2)/\OdR w E R w4:=by
 obtain⟨V,F',X,h2,h3,U⟩:=h
 refine⟨V,F',X,h2,h3,U.os.trans (J.os.trans I.os),U.tape.trans (J.tape.trans I.tape),U.output.trans (J.output.trans I.output),Nat.le_trans I.size (Nat.le_trans J.size U.size),λk W Z=>?_,λk W=>?_⟩
 ·have V:=Nat.lt_of_lt_of_le W I.size
  have Y:¬CF c m k:=λy=>by rcases y with y|y<;>omega
  refine(U.block k (Nat.lt_of_lt_of_le V J.size) (λy=>?_)).trans ((J.block k V Y).trans (I.block k W (λy=>y)))
  rcases y with y|y|y
  ·exact Z (.inl y)
  ·exact Z (.inr y)
  ·exact Y y
 ·have hb:=Nat.le_trans I.size J.size
  have:EF (E.at_ F' R.1.1 R.1.2 X) c m k:=by
   rcases W with y|y
   ·exact .inl y
   ·exact .inr (.inl y)
  rcases U.into k this with y|y
  ·rcases y with y|y|y|y
   ·exact .inl (.inl y)
   ·exact .inl (.inr y)
   ·exact .inr (by omega)
   ·exact .inr (by omega)
  ·exact .inr (by omega)
theorem B6S(h:Cs w E c m s)(J:∀i,i<E.M->(E.H i).length=128/\∀x∈E.H i,x<256)(I:LOk E s):Calls Tryz.prog 46 #[.pointer (some ⟨c,0,none⟩)] w (A43 w E c m (T1 E s)):=
 C1T h J (λe=>(I e).1) (λe=>(I e).2)
end
end
section
open Go.RowKit Go.Maps
section
variable {w:World} {E:Ev}
end
end
section
open Go.RowKit Go.Maps
theorem A43.from_{w w3 w4:World}{E:Ev}{c m:Nat}{R:(DS×LS)×Int}{x:Ending}(h:A43 w3 E c m R x w4)(a:A8 (CF c m) w (CF c m) w3):A43 w E c m R x w4:=by
 obtain⟨U,F',I,V,h3,J⟩:=h
 exact⟨U,F',I,V,h3,(a.same (G:=EF E c m) (λ_ y=>.inr (.inr y))).trans J⟩
theorem A43.blk{w3 w4:World}{E:Ev}{c m z:Nat}{R:(DS×LS)×Int}{x:Ending}{t:TypeId}{C:Array Value}(h:A43 w3 E c m R x w4)(I:C0 w3 z t C)(U:¬EF E c m z):C0 w4 z t C:=by
 obtain⟨_,F',V,_,_,J⟩:=h
 exact I.keep (J.block z I.lt U)
noncomputable def ewS(s:CS)(q:Nat)(g:Int)(x:L6):CS:=(s.set q x).touch (q:Int) g
def ewV(x:L6)(I:Int):Nat:=if I=0 then N7 ((x.v:Int)+1)else 0
section
variable {w:World} {E:Ev} {c m:Nat} {s:CS}
theorem B45(h:Cs w E c m s)(aT:∀i,i<E.M->(E.H i).length=128/\∀x∈E.H i,x<256)(q:Nat)(hq:q<=40)(g:Int)(x:L6)(hx:WfI x)(hs:Sw (s.set q x).H E.M)(hl:LOk E (ewS s q g x)):
 Calls Tryz.prog 90 #[.pointer (some ⟨c,0,none⟩),.agg #[.int .i64 (q:Int),.int .i64 g],.agg (ic x)] w λr w'=>
  r= .returned (.tuple #[.int .u64 (ewV x (T1 E (ewS s q g x)).2:Int),.int .i64 (T1 E (ewS s q g x)).2])/\A43 w E c m (T1 E (ewS s q g x)) (.returned (.int .i64 (T1 E (ewS s q g x)).2)) w':=by
 have aO:=C3t (λW (k:Cs W E c m s)=>show Calls Tryz.prog 104 #[.pointer (some ⟨c,0,none⟩),.int .i64 (q:Int),.agg (ic x)] W λr w'=>r= .returned (.tuple #[])/\Cs w' E c m (s.set q x)/\A8 (CF c m) W (CF c m) w' from A7e k q hq x hx hs.sd.hM.1)
 have aH:=C3t (λW (k:Cs W E c m (s.set q x))=>show Calls Tryz.prog 84 #[.pointer (some ⟨c,0,none⟩),.agg #[.int .i64 (q:Int),.int .i64 g]] W λr w'=>r= .returned (.tuple #[])/\Cs w' E c m (ewS s q g x)/\A8 (CF c m) W (CF c m) w' from B2E k hs (q:Int) g ⟨by omega,by omega⟩)
 have aG:=C3t (λW (k:Cs W E c m (ewS s q g x))=>B6S k aT hl)
 have aE:=C3t (show∀z,w.heap.size<=z->¬EF E c m z fromλz U y=>by
  obtain⟨b1,b2,b3⟩:=h.so.bd
  obtain⟨l1,l2⟩:=h.lt
  rcases y with y|y|y|y
  ·have:=b1 _ y;omega
  ·omega
  ·omega
  ·omega)
 obtain⟨s1,aU⟩:∃s1,s1=s.set q x:=⟨_,rfl⟩
 obtain⟨s2,aV⟩:∃s2,s2=ewS s q g x:=⟨_,rfl⟩
 rw[<-aU]at aO aH
 rw[<-aV]at aH aG⊢
 obtain⟨R,hR⟩:∃R,R=T1 E s2:=⟨_,rfl⟩
 rw[<-hR]at aG⊢
 have HC:=C3t h
 obtain⟨⟨rs,rg⟩,er⟩:=R
 simp only
 have HV:=C3t (show ewV x 0=N7 ((x.v:Int)+1)from if_pos rfl)
 have aQ:=C3t (show er≠0->ewV x er=0 fromλy=>if_neg y)
 have aR:=C3t (show(ic x)[2]? =some (.int .u64 (x.v:Int))from rfl)
 have aX:IntKind.u64.wrap ((x.v:Int)+1)=((N7 ((x.v:Int)+1):Nat):Int):=A1M _
 obtain⟨v,hv⟩:∃v,v=x.v:=⟨_,rfl⟩
 rw[<-hv]at aR aX HV
 obtain⟨v1,aW⟩:∃v1,v1=N7 ((v:Int)+1):=⟨_,rfl⟩
 rw[<-aW]at aX HV
 clear aU aV hR h aT hx hs hl hq hv aW
 by_cases h0:er=0
 ·subst h0
  go_enter Tryz.func90,Tryz.ntmps90
  go_wp2_with (first
   |(refine C4 (t:=35) rfl _ rfl rfl ?_;intro X w0 U J I;have aD:=C3t J;have aB:=C3t I;have aP:=C3t U;clear U J I)
   |(refine C4 (t:=62) rfl _ rfl rfl ?_;intro Y w1 U J I;have aF:=C3t J;have aC:=C3t (aB.out.trans I);have aI:=C3t (Nat.le_trans aB.out.size U);have aA:=C3t (aD.out.over I);have c1:w1.cell? ⟨X,0,none⟩=some (.int .i64 (q:Int)):=aA.out.cell 0;clear U J I)
   |(refine C3 (t:=62) rfl _ rfl Y aF.out rfl Tryz.underlying62 rfl B7 (C2 _) ?_)
   |(go_at_call 104;refine(aO.out _ (HC.out.step aC.out)).mono ?_;rintro r w2 ⟨rfl,V,I⟩;have aM:=C3t V;have aJ:=C3t ((aC.out.same (G:=CF c m) (λ_ y=>y.elim)).trans I);have aL:=C3t (aA.out.keep (I.block X aA.out.lt (λy=>aE.out X aP.out (.inr (.inr y)))));have aS:=C3t (aF.out.keep (I.block Y aF.out.lt (λy=>aE.out Y aI.out (.inr (.inr y)))));clear V I c1 aD)
   |(refine C3 (t:=35) rfl _ rfl X aL.out rfl Tryz.underlying35 rfl B1 rfl ?_)
   |(go_at_call 84;refine(aH.out _ aM.out).mono ?_;rintro r w3 ⟨rfl,V,I⟩;have aN:=C3t V;have aK:=C3t (aJ.out.trans I);have aY:=C3t (aS.out.keep (I.block Y aS.out.lt (λy=>aE.out Y aI.out (.inr (.inr y)))));clear V I)
   |(go_at_call 46;refine(aG.out _ aN.out).mono ?_;rintro r w4 Z;obtain⟨rfl,_⟩:=id Z;have HE:=C3t Z;have c4:w4.cell? ⟨Y,2,none⟩=some (.int .u64 (v:Int)):=(by rw[(Z.blk aY.out (aE.out Y aI.out)).cell];exact aR.out);clear Z)
   |fail)
  go_ret2
  exact⟨by rw[HV.out];rfl,HE.out.from_ aK.out⟩
 ·have J:(er !=0)=true:=by rw[bne_iff_ne];exact h0
  have HN:=C3t (aQ.out h0)
  clear h0 aQ HV
  go_enter Tryz.func90,Tryz.ntmps90
  go_wp2_with (first
   |(refine C4 (t:=35) rfl _ rfl rfl ?_;intro X w0 U J I;have aD:=C3t J;have aB:=C3t I;have aP:=C3t U;clear U J I)
   |(refine C4 (t:=62) rfl _ rfl rfl ?_;intro Y w1 U J I;have aF:=C3t J;have aC:=C3t (aB.out.trans I);have aI:=C3t (Nat.le_trans aB.out.size U);have aA:=C3t (aD.out.over I);have c1:w1.cell? ⟨X,0,none⟩=some (.int .i64 (q:Int)):=aA.out.cell 0;clear U J I)
   |(refine C3 (t:=62) rfl _ rfl Y aF.out rfl Tryz.underlying62 rfl B7 (C2 _) ?_)
   |(go_at_call 104;refine(aO.out _ (HC.out.step aC.out)).mono ?_;rintro r w2 ⟨rfl,V,I⟩;have aM:=C3t V;have aJ:=C3t ((aC.out.same (G:=CF c m) (λ_ y=>y.elim)).trans I);have aL:=C3t (aA.out.keep (I.block X aA.out.lt (λy=>aE.out X aP.out (.inr (.inr y)))));clear V I c1 aD)
   |(refine C3 (t:=35) rfl _ rfl X aL.out rfl Tryz.underlying35 rfl B1 rfl ?_)
   |(go_at_call 84;refine(aH.out _ aM.out).mono ?_;rintro r w3 ⟨rfl,V,I⟩;have aN:=C3t V;have aK:=C3t (aJ.out.trans I);clear V I)
   |(go_at_call 46;refine(aG.out _ aN.out).mono ?_;rintro r w4 Z;obtain⟨rfl,_⟩:=id Z;have HE:=C3t Z;clear Z)
   |fail)
  go_ret2
  exact⟨by rw[HN.out];rfl,HE.out.from_ aK.out⟩
end
end
section
open Go.RowKit Go.Maps
theorem nef{w1:World}{E:Ev}{c m z:Nat}(J:w1.heap.size<=c)(U:w1.heap.size<=m)(V:z<w1.heap.size)(I:¬EO E z):¬EF E c m z:=λy=>by
 rcases y with y|y|y|y
 ·exact I (.inl y)
 ·exact I (.inr y)
 ·omega
 ·omega
theorem So.new{w:World}{E:Ev}(h:So w E)(z:Nat)(V:w.heap.size<=z):¬EO E z:=λy=>by
 obtain⟨I,J,U⟩:=h.bd
 rcases y with y|y
 ·have:=I _ y;omega
 ·omega
section
variable {w:World} {E:Ev}
end
end
end Go.Proofs.YtbefmjiclpobjaaGreat
