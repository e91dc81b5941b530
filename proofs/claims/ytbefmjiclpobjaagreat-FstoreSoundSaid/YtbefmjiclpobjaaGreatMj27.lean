import Derived.Test.YtbefmjiclpobjaaGreatMj26
import Derived.BigQuiet
namespace Go.Proofs.YtbefmjiclpobjaaGreat
set_option maxHeartbeats 6400000
set_option maxRecDepth 3000
section
open Go.RowKit Go.Maps
def J1(H H0:Nat->List Nat):Nat->Option (List Nat):=λj=>if H j=H0 j then none else some (H j)
theorem C1z{A O:Nat->Option (List Nat)}{L:Nat->List Nat}(h:∀i,(O i).isSome=true->(A i).isSome=true):A5C A (vwH O L)=J1 (vwH A L) (vwH O L):=by
 funext j
 unfold A5C J1
 cases hA:A j with
 |none=>
  have U:O j=none:=by
   cases hq:O j with
   |none=>rfl
   |some x=>have:=h j (by rw[hq];rfl);rw[hA]at this;cases this
  have I:vwH A L j=L j:=by unfold vwH;rw[hA];rfl
  have J:vwH O L j=L j:=by unfold vwH;rw[U];rfl
  rw[I,J,if_pos rfl,if_neg (by simp)]
 |some b=>
  have I:vwH A L j=b:=by unfold vwH;rw[hA];rfl
  rw[I]
  by_cases e:b=vwH O L j
  ·rw[if_pos (by rw[e]),if_pos e]
  ·rw[if_neg (λx=>e (Option.some.inj x)),if_neg e]
def B1U(E:Ev)(H:Nat->List Nat)(e:Int):(DS×LS)×Int:=
 if e=0 then
  if(A0j E.s E.n E.N E.g (E6 (J1 H E.H) E.M)).2=0 then Q4 (A0j E.s E.n E.N E.g (E6 (J1 H E.H) E.M)).1.1 (A0j E.s E.n E.N E.g (E6 (J1 H E.H) E.M)).1.2
  else A0j E.s E.n E.N E.g (E6 (J1 H E.H) E.M)
 else((E.s,E.g),e)
def Ev.at_(E:Ev)(F:Nat->Prop)(s:DS)(g:LS)(O:Nat->Option (List Nat)):Ev:=⟨F,E.d,E.l,E.b,E.n,E.N,s,g,E.o,E.mo,O⟩
def EF(E:Ev)(c m:Nat):Nat->Prop:=λk=>E.U k\/k=E.mo\/CF c m k
def OtR(E:Ev)(r:(DS×LS)×Int)(I:Nat->Option (List Nat)):Prop:=
 I=E.O\/∃T B,r=Q4 (A0j E.s E.n E.N E.g (E6 T E.M)).1.1 (A0j E.s E.n E.N E.g (E6 T E.M)).1.2/\r.2≠0/\(A0j E.s E.n E.N E.g (E6 T E.M)).2=0/\I=B3M E.O B/\(∀i,B i=none\/B i=some (E.H i))/\∀i,(T i).isSome=true->(B i).isSome=true
def A5T(w:World)(E:Ev)(c m:Nat)(r:(DS×LS)×Int)(x:Ending)(w':World):Prop:=
 x= .returned (.int .i64 r.2)/\∃F' I,So w' (E.at_ F' r.1.1 r.1.2 I)/\OtR E r I/\B0 (EF E c m) w (EF (E.at_ F' r.1.1 r.1.2 I) c m) w'
theorem So.moved{w w':World}{E:Ev}{F':Nat->Prop}{s:DS}{g:LS}(h:So w E)(hr:Rs w' F' E.d E.l E.b E.n E.N s g)(I:B0 (UF E.F E.l E.b) w (UF F' E.l E.b) w')(X:AOk E.M g.A):So w' (E.at_ F' s g E.O):=by
 obtain⟨b1,V,W⟩:=h.bd
 have Z:¬UF F' E.l E.b E.o:=λU=>by
  rcases I.into _ U with x|x
  ·exact h.so x
  ·omega
 have Y:¬UF F' E.l E.b E.mo:=λU=>by
  rcases I.into _ U with x|x
  ·exact h.sm x
  ·omega
 have J:=h.blk.keep (I.block _ V h.so)
 exact⟨⟨hr,h.vu.hn,X,J.cell 0,J.cell 1,J.lt,h.vu.mp.keep (I.block _ W h.sm),h.vu.ok⟩,J,Z,Y⟩
theorem So.otherwise{w w':World}{E:Ev}{J:Nat->Option (List Nat)}(h:So w E)(X:Mp w' E.mo E.M J)(U:B0 (J0 E.mo) w (J0 E.mo) w')(W:AOk E.M J):So w' (E.at_ E.F E.s E.g J):=by
 obtain⟨Z,V,b3⟩:=h.bd
 have Y:E.o≠E.mo:=h.vu.mp.ne h.blk
 have I:=h.blk.keep (U.block _ V Y)
 exact⟨⟨⟨h.vu.rs.dk.far U (λk x y=>by unfold J0 at x;subst x;exact h.sm (.inl y)),h.vu.rs.lg.far U (λk x y=>by unfold J0 at x;subst x;exact h.sm (.inr y)),h.vu.rs.sep⟩,h.vu.hn,h.vu.lA,I.cell 0,I.cell 1,I.lt,X,W⟩,I,h.so,h.sm⟩
theorem So.m_le{w:World}{E:Ev}(h:So w E):E.M<=4096:=by
 have:=h.vu.hn
 unfold Ev.M
 omega
theorem So.m_ne{w:World}{E:Ev}{k:Nat}(h:So w E)(J:w.heap.size<=k):E.mo≠k:=λx=>by
 have I:=h.bd.2.2
 omega
theorem C3t{M:Nat}{O B:Nat->Option (List Nat)}(h:AOk M O)(k:AOk M B):AOk M (B3M O B):=λi x I=>by
 unfold B3M at I
 split at I
 ·exact k i x I
 ·exact h i x I
theorem B0k{w Y w2 Z:World}{E:Ev}{c m:Nat}{V W:Nat->Prop}{s:DS}{g:LS}{O:Nat->Option (List Nat)}(I:B0 (CF c m) w (CF c m) Y)(a2:B0 (UF E.F E.l E.b) Y (UF V E.l E.b) w2)(a3:B0 (UF V E.l E.b) w2 (UF W E.l E.b) Z):B0 (EF E c m) w (EF (E.at_ W s g O) c m) Z:=by
 have J:=a2.trans a3
 refine⟨J.os.trans I.os,J.tape.trans I.tape,J.output.trans I.output,Nat.le_trans I.size J.size,λk U X=>?_,λk U=>?_⟩
 ·exact(J.block k (Nat.lt_of_lt_of_le U I.size) (λx=>X (.inl x))).trans (I.block k U (λx=>X (.inr (.inr x))))
 ·rcases U with x|x|x
  ·rcases J.into k x with y|y
   ·exact .inl (.inl y)
   ·exact .inr (Nat.le_trans I.size y)
  ·exact .inl (.inr (.inl x))
  ·exact .inl (.inr (.inr x))
theorem C10{w W w2 X Y:World}{E:Ev}{c m:Nat}{U V:Nat->Prop}{s:DS}{g:LS}{O:Nat->Option (List Nat)}(Z:B0 (CF c m) w (CF c m) W)(a2:B0 (UF E.F E.l E.b) W (UF U E.l E.b) w2)(a3:B0 (UF U E.l E.b) w2 (UF V E.l E.b) X)(I:B0 (J0 E.mo) X (J0 E.mo) Y):B0 (EF E c m) w (EF (E.at_ V s g O) c m) Y:=by
 have a:=B0k (E:=E) (s:=s) (g:=g) (O:=O) Z a2 a3
 exact a.trans ⟨I.os,I.tape,I.output,I.size,λk J hn=>I.block k J (λx=>hn (.inr (.inl x))),λk J=>.inl J⟩
theorem C4N{w:World}{E:Ev}{c m:Nat}{H:Nat->List Nat}{e:Int}(h:Cg w E c m H e)(aW:∀i,i<E.M->(E.H i).length=128/\∀x∈E.H i,x<256)(hw:e=0->WOk E.n E.N E.s E.g)
 (hA:e=0->AOk E.M (A0j E.s E.n E.N E.g (E6 (J1 H E.H) E.M)).1.2.A):Calls Tryz.prog 46 #[.pointer (some ⟨c,0,none⟩)] w (A5T w E c m (B1U E H e)):=by
 have HC:=C6x h
 have aJ:=C6x (B9g h aW)
 unfold C3l at aJ
 have bQ:=C6x aW
 have HW:=C6x hw
 have HA:=C6x hA
 clear h aW hw hA
 by_cases he:e=0
 ·subst he
  have aF:=C6x (aJ.out.mono (R':=λx w'=>∃I,x= .returned (.map (some I))/\So w' E/\C3 w' c 175 #[.pointer (some ⟨E.l,0,none⟩),.map (some m),.pointer (some ⟨E.o,0,none⟩),.int .i64 0]/\Mp w' m E.M (J1 H E.H)/\AOk E.M (J1 H E.H)/\(∃B,Mp w' I E.M B/\AOk E.M B/\(∀i,B i=none\/B i=some (E.H i))/\∀i,(J1 H E.H i).isSome=true->(B i).isSome=true)/\w.heap.size<=I/\B0 (CF c m) w (CF c m) w'/\w'.cell? ⟨c,3,none⟩=some (.int .i64 0)) λx w' V=>by
   obtain⟨I,A,h1,h2,h3,h4,h5,h6,h7,h8,h9,aV⟩:=V
   have et:A5C A E.H=J1 H E.H:=by rw[h6];exact C1z h8
   refine⟨I,h1,h2,h3,by rw[<-et];exact h4,?_,⟨B3E A E.H,h5,?_,λi=>(by unfold B3E;split;exact .inr rfl;exact .inl rfl),λi hi=>(by
    rw[<-et]at hi
    unfold B3E
    have ha:(A i).isSome=true:=(by
     unfold A5C at hi
     split at hi
     ·cases hi
     ·exact hi)
    rw[if_pos ha];rfl)⟩,h9,aV,h3.cell 3⟩
   ·rw[<-et]
    intro i x V
    unfold A5C at V
    split at V
    ·cases V
    ·exact h7 i x V
   ·intro i x V
    unfold B3E at V
    split at V
    ·rename_i hs
     obtain⟨y,hy⟩:=Option.isSome_iff_exists.1 hs
     have hi:=(h7 i y hy).1
     cases V
     exact⟨hi,bQ.out i hi⟩
    ·cases V)
  obtain⟨T,hT⟩:∃T,T=J1 H E.H:=⟨_,rfl⟩
  have hE:B1U E H 0=if(A0j E.s E.n E.N E.g (E6 T E.M)).2=0 then Q4 (A0j E.s E.n E.N E.g (E6 T E.M)).1.1 (A0j E.s E.n E.N E.g (E6 T E.M)).1.2 else A0j E.s E.n E.N E.g (E6 T E.M):=by rw[hT];rfl
  rw[hE]
  have aB:=C6x (HA.out rfl)
  rw[<-hT]at aF aB
  have aE:=C6x (λW (so:So W E) (b:C3 W c 175 #[.pointer (some ⟨E.l,0,none⟩),.map (some m),.pointer (some ⟨E.o,0,none⟩),.int .i64 0]) (hm:Mp W m E.M T) (ok:AOk E.M T)=>C1y b HC.out.sc.1 hm so.vu.hn.2.2.2 ok so.vu.rs (HW.out rfl))
  unfold WrR at aE
  have bC:=C6x (show A0j E.s E.n E.N E.g (E6 T (E.N-2-E.n))=A0j E.s E.n E.N E.g (E6 T E.M)from rfl)
  rw[bC.out]at aE
  obtain⟨R,hR⟩:∃R,R=A0j E.s E.n E.N E.g (E6 T E.M):=⟨_,rfl⟩
  have bD:=C6x hR
  rw[<-hR]at aE aB⊢
  obtain⟨⟨s1,g1⟩,er⟩:=R
  simp only at aE aB⊢
  clear hE hT hR HA aJ bC
  by_cases aR:er=0
  ·subst aR
   rw[if_pos rfl]
   have aO:=C6x (λW F1 (r:Rs W F1 E.d E.l E.b E.n E.N s1 g1)=>B8f E.l E.b E.d E.n E.N g1 F1 s1 W r)
   unfold WrR at aO
   have aP:=C6x (show(Q4 s1 g1).1.2.A=g1.A by unfold Q4;split<;>rfl)
   obtain⟨R,hR⟩:∃R,R=Q4 s1 g1:=⟨_,rfl⟩
   have bR:=C6x hR
   rw[<-hR]at aO aP⊢
   obtain⟨⟨s2,g2⟩,eq⟩:=R
   simp only at aO aP⊢
   clear hR
   by_cases aQ:eq=0
   ·subst aQ
    go_enter Tryz.func46,Tryz.ntmps46
    go_wp2_with (first
     |(go_at_call 105;refine aF.out.mono ?_;rintro r w1 ⟨I,rfl,Y,b1,m1,aC,hB,aG,X,c3⟩;have aA:=C6x Y;have Z:=C6x b1;have aK:=C6x m1;have aL:=C6x aC;have aD:=C6x X;clear Y b1 m1 aC hB aG X)
     |(go_at_call 106;refine(aE.out w1 aA.out Z.out aK.out aL.out).mono ?_;rintro r w2 ⟨rfl,F2,r2,J⟩;have aU:=C6x r2;have aH:=C6x J;have aM:=C6x (aA.out.moved r2 J aB.out);have aI:=C6x (Z.out.keep (J.block c Z.out.lt HC.out.sc.1));have bT:w2.cell? ⟨c,0,none⟩=some (.pointer (some ⟨E.l,0,none⟩)):=aI.out.cell 0;clear r2 J c3)
     |(go_at_call 107;refine(aO.out w2 F2 aU.out).mono ?_;rintro r w3 ⟨rfl,F3,r3,a3⟩;have aN:=C6x (aM.out.moved r3 a3 (by rw[aP.out];exact aB.out));have aS:=C6x a3;clear r3 a3)
     |fail)
    go_ret
    exact⟨rfl,F3,E.O,aN.out,.inl rfl,B0k aD.out aH.out aS.out⟩
   ·have bJ:(eq !=0)=true:=by rw[bne_iff_ne];exact aQ
    have bP:=C6x aQ
    clear aQ
    go_enter Tryz.func46,Tryz.ntmps46
    go_wp2_with (first
     |(go_at_call 105;refine aF.out.mono ?_;rintro r w1 ⟨I,rfl,Y,b1,m1,aC,hB,aG,X,c3⟩;have aA:=C6x Y;have Z:=C6x b1;have aK:=C6x m1;have aL:=C6x aC;have aD:=C6x X;obtain⟨B,bG,bH,bI⟩:=hB;have aY:=C6x bI;clear bI;have aT:=C6x bG;have aX:=C6x bH;have aZ:=C6x aG;clear Y b1 m1 aC bG bH aG X)
     |(go_at_call 106;refine(aE.out w1 aA.out Z.out aK.out aL.out).mono ?_;rintro r w2 ⟨rfl,F2,r2,J⟩;have aU:=C6x r2;have aH:=C6x J;have aM:=C6x (aA.out.moved r2 J aB.out);have aI:=C6x (Z.out.keep (J.block c Z.out.lt HC.out.sc.1));have bB:=C6x (show∀z,z<w1.heap.size->¬E.U z->¬UF F2 E.l E.b z fromλz hz hu V=>(by rcases J.into z V with y|y;exact hu y;omega));have bF:=C6x (show¬E.U I fromλhu=>(by have h1:=HC.out.so.bd.1 _ hu;have h2:=aZ.out;omega));have bA:=C6x (aT.out.keep (J.block I aT.out.lt bF.out));have bT:w2.cell? ⟨c,0,none⟩=some (.pointer (some ⟨E.l,0,none⟩)):=aI.out.cell 0;clear r2 J c3)
     |(go_at_call 107;refine(aO.out w2 F2 aU.out).mono ?_;rintro r w3 ⟨rfl,F3,r3,a3⟩;have aN:=C6x (aM.out.moved r3 a3 (by rw[aP.out];exact aB.out));have aS:=C6x a3;have bM:=C6x (aI.out.keep (a3.block c aI.out.lt (bB.out c Z.out.lt HC.out.sc.1)));have bO:=C6x (bA.out.keep (a3.block I bA.out.lt (bB.out I aT.out.lt bF.out)));have bV:w3.cell? ⟨c,2,none⟩=some (.pointer (some ⟨E.o,0,none⟩)):=bM.out.cell 2;have bU:w3.cell? ⟨E.o,1,none⟩=some (.map (some E.mo)):=aN.out.vu.c1;clear r3 a3)
     |(go_at_call 108;refine(C3s (O:=E.O) (B:=B) aN.out.vu.mp bO.out (HC.out.so.m_ne aZ.out) HC.out.so.m_le aX.out).mono ?_;rintro r w4 ⟨rfl,m4,a4⟩;have bS:=C6x (aN.out.otherwise m4 a4 (C3t HC.out.so.vu.ok aX.out));have bK:=C6x a4;clear m4 a4)
     |fail)
    go_ret
    exact⟨rfl,F3,_,bS.out,.inr ⟨T,B,(by rw[<-bD.out];exact bR.out),bP.out,(by rw[<-bD.out]),rfl,aY.out.1,aY.out.2⟩,C10 aD.out aH.out aS.out bK.out⟩
  ·rw[if_neg aR]
   have bJ:(er !=0)=true:=by rw[bne_iff_ne];exact aR
   clear aR
   go_enter Tryz.func46,Tryz.ntmps46
   go_wp2_with (first
    |(go_at_call 105;refine aF.out.mono ?_;rintro r w1 ⟨I,rfl,Y,b1,m1,aC,hB,aG,X,c3⟩;have aA:=C6x Y;have Z:=C6x b1;have aK:=C6x m1;have aL:=C6x aC;have aD:=C6x X;clear Y b1 m1 aC hB aG X)
    |(go_at_call 106;refine(aE.out w1 aA.out Z.out aK.out aL.out).mono ?_;rintro r w2 ⟨rfl,F2,r2,J⟩;have aH:=C6x J;have aM:=C6x (aA.out.moved r2 J aB.out);clear r2 J c3)
    |fail)
   go_ret
   exact⟨rfl,F2,E.O,aM.out,.inl rfl,B0k aD.out aH.out (B0.refl _ _)⟩
 ·have hE:B1U E H e=((E.s,E.g),e):=by unfold B1U;rw[if_neg he]
  rw[hE]
  have bJ:(e !=0)=true:=by rw[bne_iff_ne];exact he
  have aF:=C6x (aJ.out.mono (R':=λx w'=>∃I,x= .returned (.map (some I))/\So w' E/\B0 (CF c m) w (CF c m) w'/\w'.cell? ⟨c,3,none⟩=some (.int .i64 e)) λx w' V=>by
   obtain⟨I,A,h1,h2,h3,h4,h5,h6,h7,h8,h9,aV⟩:=V
   exact⟨I,h1,h2,aV,h3.cell 3⟩)
  clear hE he aJ HA HW
  go_enter Tryz.func46,Tryz.ntmps46
  go_wp2_with (first
   |(go_at_call 105;refine aF.out.mono ?_;rintro r w1 ⟨I,rfl,Y,X,c3⟩;have aA:=C6x Y;have aD:=C6x X;clear Y X)
   |fail)
  go_ret
  exact⟨rfl,E.F,E.O,aA.out,.inl rfl,B0k aD.out (B0.refl _ _) (B0.refl _ _)⟩
end
section
open Go.RowKit
theorem B1V:(Tryz.prog.info? 9).map (λi=>(i.zero,i.size,i.bytes))=some (some (.string ByteArray.empty),1,16):=by kernel_rfl
theorem C3.rdT{w:World}{z n:Nat}{t:TypeId}{C:List Value}(h:C3 w z t C.toArray)(I:C.length=n)(U:n<=100)(V:0<n):Rd w 1 (.slice (some ⟨z,0,none⟩) n n) n C:=
 ⟨_,n,rfl,Nat.le_refl _,by unfold maxLen;omega,by simpa using I,λe=>(by cases e),λ_=>⟨_,rfl,h.lt,λj u J=>by
  have e:(⟨z,0,none⟩:Addr).add j=⟨z,j,none⟩:=by rw[add_none,Nat.zero_add]
  rw[e]
  have:=h.cell j
  rw[List.getElem?_toArray]at this
  rw[this];exact J⟩⟩
section
variable {ops:Array Oper} {rest:List Oper} {o:Oper} {a:Act} {w:World} {Q:Exit->Act->World->Prop}
theorem U6(J:o.guard=none)(x:Operand)(V:o.op= .buildSlice 218 1 #[(0,x)])(s:ByteArray)(W:a.eval x= .string s)
 (h:∀z w',w.heap.size<=z->Rd w' 1 (.slice (some ⟨z,0,none⟩) 1 1) 1 ([s].map Value.string)->B0 B5 w B5 w'->wpList Tryz.prog ops Q rest (a.put o.dst (.slice (some ⟨z,0,none⟩) 1 1)) w'):wpList Tryz.prog ops Q (o::rest) a w:=by
 obtain⟨Y,U,X,I,_⟩:=info_parts B1V
 refine wpList_buildSlice J 218 9 1 _ V #[.string s] Y _ Tryz.underlying218 U X (by rw[I];decide) (by rw[I];decide) ?_ (h _ _ (Nat.le_refl _) (C3.rdT (C:=[.string s]) (C3.new _ _ _) rfl (by decide) (by decide)) ((B0.refl _ _).alloc _))
 rw[I]
 simp[W,Instr.fill,Value.cells,Array.range]
 all_goals rfl
theorem Y3(J:o.guard=none)(x y:Operand)(V:o.op= .buildSlice 218 2 #[(0,x),(1,y)])(s t:ByteArray)(W:a.eval x= .string s)(X:a.eval y= .string t)
 (h:∀z w',w.heap.size<=z->Rd w' 1 (.slice (some ⟨z,0,none⟩) 2 2) 2 ([s,t].map Value.string)->B0 B5 w B5 w'->wpList Tryz.prog ops Q rest (a.put o.dst (.slice (some ⟨z,0,none⟩) 2 2)) w'):wpList Tryz.prog ops Q (o::rest) a w:=by
 obtain⟨Z,U,Y,I,_⟩:=info_parts B1V
 refine wpList_buildSlice J 218 9 2 _ V #[.string s,.string t] Z _ Tryz.underlying218 U Y (by rw[I];decide) (by rw[I];decide) ?_ (h _ _ (Nat.le_refl _) (C3.rdT (C:=[.string s,.string t]) (C3.new _ _ _) rfl (by decide) (by decide)) ((B0.refl _ _).alloc _))
 rw[I]
 simp[W,X,Instr.fill,Value.cells,Array.range]
 all_goals rfl
end
section
variable {p M:Nat} {H:Nat->List Nat} {w:World}
theorem A0Y(h:Rdv w p M H):Calls Tryz.prog 73 #[.pointer (some ⟨p,0,none⟩)] w λe w'=>e= .returned (.bool true)/\w=w':=by
 obtain⟨l,I,_⟩:=h.homes _ _ (B0.refl B5 w)
 exact C2X p l w I
theorem EnO.from_{w I J:World}{l:List En}{v:Value}(h:EnO I l v J)(W:B0 B5 w B5 I):EnO w l v J:=by
 obtain⟨F,U,V⟩:=h.ex
 exact⟨⟨F,U,W.trans V⟩,h.sz⟩
theorem C3u(h:Rdv w p M H)(hs:Sd H M)(i g:Int):Calls Tryz.prog 27 #[.pointer (some ⟨p,0,none⟩),.agg #[.int .i64 i,.int .i64 g]] w (EsR w (L4 H i g) (J3 H i g)):=by
 have U:=C6x (λV (a:B0 B5 w B5 V)=>A0b (h.step a) hs i g)
 have HM:=C6x (λV (a:B0 B5 w B5 V)=>A0Y (h.step a))
 obtain⟨L,Y⟩:∃L,L=L4 H i g:=⟨_,rfl⟩
 obtain⟨W,aA⟩:∃W,W=J3 H i g:=⟨_,rfl⟩
 rw[<-Y,<-aA]at U⊢
 unfold EsR at U⊢
 obtain⟨n,hn⟩:∃n,n=L.length:=⟨_,rfl⟩
 rw[<-hn]at U⊢
 clear Y aA h hs hn
 go_enter Tryz.func27,Tryz.ntmps27
 go_wp2_with (first
  |(refine C5 rfl _ rfl rfl ?_;intro z0 w0 hz Z I;have aC:=C6x Z;have J:=C6x I;clear hz Z I)
  |(go_at_call 73;refine(HM.out _ J.out).mono ?_;rintro e w1 ⟨rfl,rfl⟩)
  |(refine B6 rfl _ rfl z0 aC.out rfl Tryz.underlying35 rfl B1 rfl ?_)
  |(go_at_call 74;refine(U.out _ J.out).mono ?_;rintro e w2 ⟨A2,c2,rfl,X,I⟩;have HO:=C6x (X.from_ J.out);have aB:=C6x (J.out.trans I);clear X I)
  |fail)
 go_ret2
 exact⟨A2,c2,rfl,HO.out,aB.out⟩
end
end
section
open Go.RowKit Go.Maps
section
variable {p M:Nat} {H:Nat->List Nat} {w:World}
noncomputable def A20(H:Nat->List Nat)(i g a:Int):Int:=
 if 0<=a/\a<8 then(if Q3 H i g 2=0 then A1W H ((fileX H i g).a a.toNat)else Q3 H i g 2)else 2
noncomputable def A4y(H:Nat->List Nat)(i g a:Int):ByteArray:=if A20 H i g a=0 then A3q H ((fileX H i g).a a.toNat)else⟨#[]⟩
noncomputable def A4z(H:Nat->List Nat)(i g a:Int):Nat:=if A20 H i g a=0 then(fileX H i g).v else 0
theorem B9t(X:L6)(j:Nat)(I:j<8):(ic X)[3+j]? =some (.int .i64 (X.a j)):=by
 have h:j=0\/j=1\/j=2\/j=3\/j=4\/j=5\/j=6\/j=7:=by omega
 rcases h with rfl|rfl|rfl|rfl|rfl|rfl|rfl|rfl<;>rfl
theorem C3v(h:Rdv w p M H)(hs:Sd H M)(i g a:Int):Calls Tryz.prog 34 #[.pointer (some ⟨p,0,none⟩),.agg #[.int .i64 i,.int .i64 g],.int .i64 a] w λe w'=>e= .returned (.tuple #[.string (A4y H i g a),.int .u64 (A4z H i g a:Int),.int .i64 (A20 H i g a)])/\B0 B5 w B5 w':=by
 have HM:=C6x (λV (a:B0 B5 w B5 V)=>A0Y (h.step a))
 have aE:=C6x (λV=>A59 a V)
 by_cases aA:0<=a/\a<8
 ·obtain⟨j,rfl⟩:∃j:Nat,a=(j:Int):=⟨a.toNat,by omega⟩
  have hj:j<8:=by omega
  have aF:(decide (0<=(j:Int))&&decide ((j:Int)<8))=true:=by rw[decide_eq_true aA.1,decide_eq_true aA.2];rfl
  rw[aF]at aE
  have HF:=C6x (λV (a:B0 B5 w B5 V)=>A2u (h.step a) hs i g 2)
  unfold A8f at HF
  by_cases Z:Q3 H i g 2=0
  ·obtain⟨_,_,h3⟩:=A0W Z
   have hp:=(V8 hs i g).2.1 j hj
   have HD:=C6x (λV (a:B0 B5 w B5 V)=>C3c (h.step a) hs _ hp)
   rw[h3,Z]at HF
   have Y:A20 H i g (j:Int)=A1W H ((fileX H i g).a j):=by unfold A20;rw[if_pos aA,if_pos Z];rfl
   have eS:A4y H i g (j:Int)=if A1W H ((fileX H i g).a j)=0 then A3q H ((fileX H i g).a j)else⟨#[]⟩:=by unfold A4y;rw[Y];rfl
   have eV:A4z H i g (j:Int)=if A1W H ((fileX H i g).a j)=0 then(fileX H i g).v else 0:=by unfold A4z;rw[Y]
   rw[Y,eS,eV]
   obtain⟨X,hX⟩:∃X,X=fileX H i g:=⟨_,rfl⟩
   rw[<-hX]at HF HD⊢
   obtain⟨A,hA⟩:∃A,A=X.a j:=⟨_,rfl⟩
   have HP:=C6x (show(ic X)[3+j]? =some (.int .i64 A)by rw[hA];exact B9t X j hj)
   rw[<-hA]at HD⊢
   obtain⟨er,aJ⟩:∃er,er=A1W H A:=⟨_,rfl⟩
   obtain⟨S,hS⟩:∃S,S=A3q H A:=⟨_,rfl⟩
   rw[<-aJ,<-hS]at HD⊢
   have aP:(0:Int)<=(j:Int):=by omega
   have aO:(j:Int)<8:=by omega
   obtain⟨V,hV⟩:∃V,V=X.v:=⟨_,rfl⟩
   rw[<-hV]
   have aL:=C6x (show(ic X)[2]? =some (.int .u64 (V:Int))by rw[hV];rfl)
   clear hX hA aJ hS hp h3 Z aA aF h hs Y eS eV hV hj
   by_cases h0:er=0
   ·subst h0
    rw[if_pos rfl,if_pos rfl]
    go_enter Tryz.func34,Tryz.ntmps34
    go_wp2_with (first
     |(refine C5 rfl _ rfl rfl ?_;intro z0 w0 U J I;have aD:=C6x J;have W:=C6x I;clear U J I)
     |(go_at_call 73;refine(HM.out _ W.out).mono ?_;rintro e w2 ⟨rfl,rfl⟩)
     |(go_at_call 85;refine(aE.out _).mono ?_;rintro e w2 ⟨rfl,rfl⟩)
     |(refine B6 (t:=35) rfl _ rfl z0 aD.out rfl Tryz.underlying35 rfl B1 rfl ?_)
     |(go_at_call 86;refine(HF.out _ W.out).mono ?_;rintro e w2 ⟨rfl,I⟩;have aB:=C6x (W.out.trans I);clear I)
     |(refine B9 rfl rfl C6 ?_;intro z5 w5 U J I;have aH:=C6x J;have aG:=C6x (aB.out.trans I);have aI:=C6x (Nat.le_trans aB.out.size U);clear U J I)
     |(refine B7 rfl _ _ rfl z5 aH.out rfl rfl C0 (C2 _) (C2 _) (D5 _) ?_;intro w6 J I;have aM:=C6x J;have aC:=C6x (aG.out.fresh aI.out I);have c6:w6.cell? ⟨z5,3+j,none⟩=some (.int .i64 A):=(by rw[J.cell];exact HP.out);clear J I)
     |(go_at_call 87;refine(HD.out _ aC.out).mono ?_;rintro e w7 ⟨rfl,I⟩;have aK:=C6x (aC.out.trans I);have aN:=C6x (aM.out.over I);have c7:w7.cell? ⟨z5,2,none⟩=some (.int .u64 (V:Int)):=(by rw[aN.out.cell];exact aL.out);clear I c6)
     |fail)
    go_quiet (fail)
    go_wp2
    exact bodyPost_ret (results_tmp3 rfl _ _ _) rfl ⟨rfl,aK.out.drewN _⟩
   ·rw[if_neg h0,if_neg h0]
    have J:(er !=0)=true:=by rw[bne_iff_ne];exact h0
    clear h0
    go_enter Tryz.func34,Tryz.ntmps34
    go_wp2_with (first
     |(refine C5 rfl _ rfl rfl ?_;intro z0 w0 U J I;have aD:=C6x J;have W:=C6x I;clear U J I)
     |(go_at_call 73;refine(HM.out _ W.out).mono ?_;rintro e w2 ⟨rfl,rfl⟩)
     |(go_at_call 85;refine(aE.out _).mono ?_;rintro e w2 ⟨rfl,rfl⟩)
     |(refine B6 (t:=35) rfl _ rfl z0 aD.out rfl Tryz.underlying35 rfl B1 rfl ?_)
     |(go_at_call 86;refine(HF.out _ W.out).mono ?_;rintro e w2 ⟨rfl,I⟩;have aB:=C6x (W.out.trans I);clear I)
     |(refine B9 rfl rfl C6 ?_;intro z5 w5 U J I;have aH:=C6x J;have aG:=C6x (aB.out.trans I);have aI:=C6x (Nat.le_trans aB.out.size U);clear U J I)
     |(refine B7 rfl _ _ rfl z5 aH.out rfl rfl C0 (C2 _) (C2 _) (D5 _) ?_;intro w6 J I;have aC:=C6x (aG.out.fresh aI.out I);have c6:w6.cell? ⟨z5,3+j,none⟩=some (.int .i64 A):=(by rw[J.cell];exact HP.out);clear J I)
     |(go_at_call 87;refine(HD.out _ aC.out).mono ?_;rintro e w7 ⟨rfl,I⟩;have aK:=C6x (aC.out.trans I);clear I c6)
     |fail)
    exact bodyPost_ret (results_tmp3 rfl _ _ _) rfl ⟨rfl,aK.out⟩
  ·have Y:A20 H i g (j:Int)=Q3 H i g 2:=by unfold A20;rw[if_pos aA,if_neg Z]
   have eS:A4y H i g (j:Int)=⟨#[]⟩:=by unfold A4y;rw[Y,if_neg Z]
   have eV:A4z H i g (j:Int)=0:=by unfold A4z;rw[Y,if_neg Z]
   rw[Y,eS,eV]
   obtain⟨er,aJ⟩:∃er,er=Q3 H i g 2:=⟨_,rfl⟩
   obtain⟨X,hX⟩:∃X,X=A7l H i g 2:=⟨_,rfl⟩
   rw[<-aJ]at HF Z⊢
   rw[<-hX]at HF
   have J:(er !=0)=true:=by rw[bne_iff_ne];exact Z
   clear aJ hX Z aA aF h hs Y eS eV hj
   go_enter Tryz.func34,Tryz.ntmps34
   go_wp2_with (first
    |(refine C5 rfl _ rfl rfl ?_;intro z0 w0 U J I;have aD:=C6x J;have W:=C6x I;clear U J I)
    |(go_at_call 73;refine(HM.out _ W.out).mono ?_;rintro e w2 ⟨rfl,rfl⟩)
    |(go_at_call 85;refine(aE.out _).mono ?_;rintro e w2 ⟨rfl,rfl⟩)
    |(refine B6 (t:=35) rfl _ rfl z0 aD.out rfl Tryz.underlying35 rfl B1 rfl ?_)
    |(go_at_call 86;refine(HF.out _ W.out).mono ?_;rintro e w2 ⟨rfl,I⟩;have aB:=C6x (W.out.trans I);clear I)
    |(refine B9 rfl rfl C6 ?_;intro z5 w5 U J I;have aH:=C6x J;have aG:=C6x (aB.out.trans I);have aI:=C6x (Nat.le_trans aB.out.size U);clear U J I)
    |(refine B7 rfl _ _ rfl z5 aH.out rfl rfl C0 (C2 _) (C2 _) (D5 _) ?_;intro w6 J I;have aC:=C6x (aG.out.fresh aI.out I);clear J I)
    |fail)
   exact bodyPost_ret (results_tmp3 rfl _ _ _) rfl ⟨rfl,aC.out⟩
 ·have Y:A20 H i g a=2:=by unfold A20;rw[if_neg aA]
  have eS:A4y H i g a=⟨#[]⟩:=by unfold A4y;rw[Y];rfl
  have eV:A4z H i g a=0:=by unfold A4z;rw[Y];rfl
  have aF:(decide (0<=a)&&decide (a<8))=false:=by
   rw[Bool.and_eq_false_iff]
   by_cases h1:0<=a
   ·right;exact decide_eq_false (λx=>aA ⟨h1,x⟩)
   ·left;exact decide_eq_false h1
  rw[aF]at aE
  rw[Y,eS,eV]
  clear h hs aA aF Y eS eV
  go_enter Tryz.func34,Tryz.ntmps34
  go_wp2_with (first
   |(refine C5 rfl _ rfl rfl ?_;intro z0 w0 U J I;have aD:=C6x J;have W:=C6x I;clear U J I)
   |(go_at_call 73;refine(HM.out _ W.out).mono ?_;rintro e w2 ⟨rfl,rfl⟩)
   |(go_at_call 85;refine(aE.out _).mono ?_;rintro e w2 ⟨rfl,rfl⟩)
   |fail)
  exact bodyPost_ret (results_tmp3 rfl _ _ _) rfl ⟨rfl,W.out⟩
end
end
section
open Go.RowKit
section
variable {s:CS} {M:Nat}
theorem B5c{a:Int}{l:List Nat}(h:(s.place M a l).e=0):s.e=0:=by
 unfold CS.place at h
 split at h
 ·split at h
  ·exact h
  ·exact(V7 h).1
 ·split at h
  ·exact(V7 h).1
  ·exact h
theorem C3w{x:L6}{bs:List (List Nat)}:∀j,(fl M x bs s j).1.e=0->s.e=0
 |0,h=>h
 |j+1,h=>C3w j (B5c h)
theorem B3N{x:L6}{bs:List (List Nat)}(h:Sw s.H M)(J:A0c bs)(I:∀j,j<8->x.a j=0\/(42<=x.a j/\x.a j<M)):∀j,j<=8->(fl M x bs s j).1.e=0->∀i,i<8->(fl M x bs s j).2 i=0\/(42<=(fl M x bs s j).2 i/\(fl M x bs s j).2 i<M)
 |0,_,_,i,hi=>I i hi
 |j+1,hj,he,i,hi=>by
  have U:=B3N h J I j (by omega) (B5c he) i hi
  show(if i=j then _ else _)=0\/(42<=(if i=j then _ else _)/\(if i=j then _ else _)<(M:Int))
  split
  ·rcases A5j (s:=(fl M x bs s j).1) (l:=bs.getD j []) (A4v h J I j (by omega)) (I j (by omega))with y|y|⟨y,_⟩
   ·exact .inl y
   ·exact .inr y
   ·exact absurd he y
  ·exact U
theorem C3x{x:L6}(h:A8h x=0):okI x:=by
 unfold A8h at h
 split at h
 ·assumption
 ·cases h
theorem A3M(h:Sw s.H M){i:Nat}{x:L6}(W:WfI x)(hi:s.e=0->1<=i/\i<=40)(V:s.e=0->∀j,j<8->x.a j=0\/(42<=x.a j/\x.a j<M)):Sw (s.set i x).H M:=by
 show Sw (if M8 s.e (A8h x)=0 then N6 s.H (1+i) (secI x)else s.H) M
 split
 ·rename_i U
  obtain⟨I,J⟩:=V7 U
  exact(h.setI (hi I) W (C3x J) (V I)).1
 ·exact h
theorem B1W(h:Sw s.H M)(i g:Int)(l:List En):Sw (s.setEn M i g l).H M:=by
 obtain⟨V,J,_⟩:=V8 h.sd i g
 have I:Sw ((s.note (bE l)).note (fileE s.H i g)).H M:=h
 unfold CS.setEn
 refine A3M (A4v I (A6i l) J 8 (Nat.le_refl _)) (A7w I (A6i l) J V) (λe=>?_) (λe=>B3N I (A6i l) J 8 (Nat.le_refl _) e)
 have U:=C3w 8 e
 have:=R5 (V7 U).2
 omega
theorem B1X(h:Sw s.H M)(i g:Int)(x:En):Sw (s.enter M i g x).H M:=B1W (s:=s.note _) h i g _
theorem B1Y(h:Sw s.H M)(i g:Int)(x:ByteArray):Sw (s.leave M i g x).H M:=B1W (s:=s.note _) h i g _
theorem B9u(h:Sw s.H M)(i g:Int):WfI (upI (fileX s.H i g)):=by
 obtain⟨I,_,h3⟩:=V8 h.sd i g
 exact⟨I.k,I.g,by show(fileX s.H i g).v+1<_;omega,I.a⟩
theorem C12(h:Sw s.H M)(i g:Int):WfI (A8i (fileX s.H i g)):=by
 obtain⟨I,_,h3⟩:=V8 h.sd i g
 exact⟨by show -9223372036854775808<=(0:Int)/\(0:Int)<9223372036854775808;decide,I.g,by show 0<18446744073709551616;decide,λj _=>by show -9223372036854775808<=(0:Int)/\(0:Int)<9223372036854775808;decide⟩
theorem B9v(h:Sw s.H M)(i g:Int):Sw (s.touch i g).H M:=by
 obtain⟨J,I,_⟩:=V8 h.sd i g
 unfold CS.touch
 split
 ·refine A3M (s:=(s.note (fileE s.H i g)).note 8) h (B9u h i g) (λe=>?_) (λ_=>I)
  have:=R5 (V7 (V7 e).1).2
  omega
 ·refine A3M (s:=s.note (fileE s.H i g)) h (B9u h i g) (λe=>?_) (λ_=>I)
  have:=R5 (V7 e).2
  omega
theorem B0l(h:Sw s.H M)(i g:Int):Sw (s.free M i g).H M:=by
 obtain⟨X,U,_⟩:=V8 h.sd i g
 have J:Sw (s.note (fileE s.H i g)).H M:=h
 have V:A0c []:=λr W=>by simp at W
 unfold CS.free
 refine A3M (A4v J V U 8 (Nat.le_refl _)) (C12 h i g) (λe=>?_) (λ_ j _=>.inl rfl)
 have I:=C3w 8 e
 have:=R5 (V7 I).2
 omega
theorem C14(h:Sw s.H M)(i g:Int)(J:ByteArray)(I:Int):Sw (s.repl M i g J I).H M:=by
 unfold CS.repl
 split
 ·exact h
 ·split
  ·exact B0l (s:=(s.note _).note _) h _ _
  ·exact B0l (s:=((s.note _).note _).note _) h _ _
end
end
section
open Go.RowKit
def up2{α:Type}(P:Nat->Nat->α)(i j:Nat)(x:α):Nat->Nat->α:=λa b=>if a=i/\b=j then x else P a b
theorem A0d{α:Type}(P:Nat->Nat->α)(i j:Nat)(x:α):up2 P i j x i j=x:=if_pos ⟨rfl,rfl⟩
theorem U2{α:Type}(P:Nat->Nat->α){i j a b:Nat}(x:α)(h:¬(a=i/\b=j)):up2 P i j x a b=P a b:=if_neg h
theorem B1Z{α:Type}(P:Nat->Nat->α)(i j:Nat):up2 P i j (P i j)=P:=by
 funext a b
 unfold up2
 split
 ·rename_i h;rw[h.1,h.2]
 ·rfl
def T7(l:List Nat):Nat:=if l=[]then 0 else 1
def P6(f:Nat->List Nat):Nat->Nat
 |0=>0
 |j+1=>P6 f j+T7 (f j)
def A0e(R:Nat->Nat->List Nat):Nat->Nat
 |0=>0
 |i+1=>A0e R i+P6 (R (i+1)) 8
theorem A0J{f g:Nat->List Nat}:∀{n:Nat},(∀j,j<n->f j=g j)->P6 f n=P6 g n
 |0,_=>rfl
 |n+1,h=>by
  show P6 f n+T7 (f n)=P6 g n+T7 (g n)
  rw[A0J (λj I=>h j (by omega)),h n (by omega)]
theorem A0f{R S:Nat->Nat->List Nat}:∀{n:Nat},(∀i j,1<=i->i<=n->j<8->R i j=S i j)->A0e R n=A0e S n
 |0,_=>rfl
 |n+1,h=>by
  show A0e R n+P6 (R (n+1)) 8=A0e S n+P6 (S (n+1)) 8
  rw[A0f (λi j I U h3=>h i j I (by omega) h3),A0J (λj J=>h (n+1) j (by omega) (by omega) J)]
theorem B5d{f g:Nat->List Nat}{j:Nat}(I:∀b,b≠j->g b=f b):∀{n:Nat},j<n->P6 g n+T7 (f j)=P6 f n+T7 (g j)
 |n+1,h=>by
  show P6 g n+T7 (g n)+T7 (f j)=P6 f n+T7 (f n)+T7 (g j)
  by_cases J:j=n
  ·subst J
   rw[A0J (f:=g) (g:=f) (λb U=>I b (by omega))]
   omega
  ·rw[I n (λe=>J e.symm)]
   have:=B5d I (n:=n) (by omega)
   omega
theorem B5e{R S:Nat->Nat->List Nat}{i j:Nat}(I:∀a b,¬(a=i/\b=j)->S a b=R a b)(U:1<=i)(J:j<8):∀{n:Nat},i<=n->A0e S n+T7 (R i j)=A0e R n+T7 (S i j)
 |0,h=>by omega
 |n+1,h=>by
  show A0e S n+P6 (S (n+1)) 8+T7 (R i j)=A0e R n+P6 (R (n+1)) 8+T7 (S i j)
  by_cases hi:i=n+1
  ·subst hi
   rw[A0f (R:=S) (S:=R) (λa b _ V _=>I a b (by omega))]
   have:=B5d (f:=R (n+1)) (g:=S (n+1)) (j:=j) (λb W=>I (n+1) b (by omega)) J
   omega
  ·rw[A0J (f:=S (n+1)) (g:=R (n+1)) (λb _=>I (n+1) b (by omega))]
   have:=B5e I U J (n:=n) (by omega)
   omega
theorem B5f(f:Nat->List Nat):∀n,P6 f n<=n
 |0=>Nat.le_refl _
 |n+1=>by
  show P6 f n+T7 (f n)<=n+1
  have:=B5f f n
  unfold T7
  split<;>omega
theorem B9x:T7 []=0:=rfl
theorem A0Z{l:List Nat}(h:l≠[]):T7 l=1:=if_neg h
theorem B9y{T:List Bool}:L9 T<T.length↔0<A0C T:=by
 unfold L9 A0C
 rw[List.findIdx_lt_length]
 constructor
 ·rintro⟨x,J,I⟩
  have:x=false:=by simpa using I
  subst this
  exact List.count_pos_iff.2 J
 ·intro h
  exact⟨false,List.count_pos_iff.1 h,rfl⟩
theorem B2a{T:List Bool}(h:L9 T<T.length):T.getD (L9 T) false=false:=by
 have I:(!T[L9 T])=true:=List.findIdx_getElem (w:=h)
 rw[A0B h]
 simpa using I
theorem A72{T:List Bool}{k:Nat}(b:Bool)(I:k<T.length):A0C (T.set k b)+(if T.getD k false=false then 1 else 0)=A0C T+(if b=false then 1 else 0):=by
 unfold A0C
 rw[List.count_set I,A0B I]
 cases hb:T[k]
 ·have:0<T.count false:=List.count_pos_iff.2 (by rw[<-hb];exact List.getElem_mem I)
  cases b<;>simp<;>omega
 ·cases b<;>simp
def In8(i j:Nat):Prop:=1<=i/\i<=40/\j<8
structure Ow (H:Nat->List Nat) (M:Nat) (P:Nat->Nat->Int) (R:Nat->Nat->List Nat):Prop where
 pt:∀i j,In8 i j->P i j=0\/(42<=P i j/\P i j<M)
 nz:∀i j,In8 i j->(P i j=0↔R i j=[])
 at_:∀i j,In8 i j->P i j≠0->H (P i j).toNat=R i j
 inj:∀i j i' j',In8 i j->In8 i' j'->P i j≠0->P i j=P i' j'->i=i'/\j=j'
 bit:∀h:Nat,42<=h->h<M->((D3 H M).getD h false=true↔∃i j,In8 i j/\P i j=h)
 cnt:A0C (D3 H M)+A0e R 40+42=M
theorem Ow.congr{H:Nat->List Nat}{M:Nat}{P W:Nat->Nat->Int}{R R':Nat->Nat->List Nat}(h:Ow H M P R)(I:∀i j,In8 i j->W i j=P i j)(V:∀i j,In8 i j->R' i j=R i j):Ow H M W R':=by
 refine⟨λi j hi=>by rw[I i j hi];exact h.pt i j hi,λi j hi=>by rw[I i j hi,V i j hi];exact h.nz i j hi,λi j hi=>by rw[I i j hi,V i j hi];exact h.at_ i j hi,λi j Y Z hi X=>by rw[I i j hi,I Y Z X];exact h.inj i j Y Z hi X,λk J U=>?_,?_⟩
 ·rw[h.bit k J U]
  constructor
  ·rintro⟨i,j,hi,e⟩;exact⟨i,j,hi,by rw[I i j hi];exact e⟩
  ·rintro⟨i,j,hi,e⟩;exact⟨i,j,hi,by rw[<-I i j hi];exact e⟩
 ·rw[A0f (R:=R') (S:=R) (λi j J U h3=>V i j ⟨J,U,h3⟩)]
  exact h.cnt
theorem Ow.homes{H H':Nat->List Nat}{M:Nat}{P:Nat->Nat->Int}{R:Nat->Nat->List Nat}(h:Ow H M P R)(I:∀k,k=1\/42<=k->H' k=H k):Ow H' M P R:=by
 have J:D3 H' M=D3 H M:=by unfold D3;rw[I 1 (.inl rfl)]
 refine⟨h.pt,h.nz,λi j hi U=>?_,h.inj,by rw[J];exact h.bit,by rw[J];exact h.cnt⟩
 have:=h.pt i j hi
 rw[I _ (.inr (by omega))]
 exact h.at_ i j hi U
theorem Ow.upd{H H':Nat->List Nat}{M i j:Nat}{P:Nat->Nat->Int}{R:Nat->Nat->List Nat}(h:Ow H M P R)(hi:In8 i j){a:Int}{l:List Nat}(aE:a=0\/(42<=a/\a<M))(aK:a=0↔l=[])(aG:a≠0->H' a.toNat=l)
 (hH:∀k:Nat,42<=k->(k:Int)≠a->H' k=H k) (aH:∀k:Nat,42<=k->k<M->(D3 H' M).getD k false=if(k:Int)=a then true else if(k:Int)=P i j then false else(D3 H M).getD k false)
 (aI:a≠0->a=P i j\/(D3 H M).getD a.toNat false=false) (aL:A0C (D3 H' M)+T7 l=A0C (D3 H M)+T7 (R i j)):Ow H' M (up2 P i j a) (up2 R i j l):=by
 have aB:∀I J,In8 I J->¬(I=i/\J=j)->a≠0->P I J≠a:=by
  intro I J V aJ ha e
  rcases aI ha with x|x
  ·have:=h.inj I J i j V hi (by rw[e];exact ha) (by rw[e];exact x)
   exact aJ this
  ·have hr:=aE
   have hb:=(h.bit a.toNat (by omega) (by omega)).2 ⟨I,J,V,by rw[e];omega⟩
   rw[x]at hb
   cases hb
 refine⟨λI J V=>?_,λI J V=>?_,λI J V=>?_,λi1 j1 i2 j2 h1 h2=>?_,λk aC aD=>?_,?_⟩
 ·by_cases U:I=i/\J=j
  ·rw[U.1,U.2,A0d];exact aE
  ·rw[U2 _ _ U];exact h.pt I J V
 ·by_cases U:I=i/\J=j
  ·rw[U.1,U.2,A0d,A0d];exact aK
  ·rw[U2 _ _ U,U2 _ _ U];exact h.nz I J V
 ·by_cases U:I=i/\J=j
  ·rw[U.1,U.2,A0d,A0d];exact aG
  ·rw[U2 _ _ U,U2 _ _ U]
   intro Z
   have hp:=h.pt I J V
   rw[<-h.at_ I J V Z]
   refine hH _ (by omega) (λe=>?_)
   by_cases ha:a=0
   ·omega
   ·exact aB I J V U ha (by omega)
 ·by_cases X:i1=i/\j1=j
  ·by_cases W:i2=i/\j2=j
   ·intro _ _
    exact⟨X.1.trans W.1.symm,X.2.trans W.2.symm⟩
   ·rw[X.1,X.2,A0d,U2 _ _ W]
    intro Z e
    exact absurd e.symm (aB i2 j2 h2 W Z)
  ·by_cases W:i2=i/\j2=j
   ·rw[W.1,W.2,A0d,U2 _ _ X]
    intro Z e
    exact absurd e (aB i1 j1 h1 X (by rw[<-e];exact Z))
   ·rw[U2 _ _ X,U2 _ _ W]
    exact h.inj i1 j1 i2 j2 h1 h2
 ·rw[aH k aC aD]
  by_cases Y:(k:Int)=a
  ·rw[if_pos Y]
   refine⟨λ_=>⟨i,j,hi,by rw[A0d];exact Y.symm⟩,λ_=>rfl⟩
  ·rw[if_neg Y]
   by_cases aA:(k:Int)=P i j
   ·rw[if_pos aA]
    refine⟨λx=>(by cases x),?_⟩
    rintro⟨I,J,V,e⟩
    by_cases U:I=i/\J=j
    ·rw[U.1,U.2,A0d]at e;exact absurd e.symm Y
    ·rw[U2 _ _ U]at e
     exact absurd (h.inj I J i j V hi (by omega) (by omega)) U
   ·rw[if_neg aA,h.bit k aC aD]
    constructor
    ·rintro⟨I,J,V,e⟩
     have U:¬(I=i/\J=j):=λx=>aA (by rw[<-e,x.1,x.2])
     exact⟨I,J,V,by rw[U2 _ _ U];exact e⟩
    ·rintro⟨I,J,V,e⟩
     by_cases U:I=i/\J=j
     ·rw[U.1,U.2,A0d]at e;exact absurd e.symm Y
     ·rw[U2 _ _ U]at e
      exact⟨I,J,V,e⟩
 ·have h1:=B5e (R:=R) (S:=up2 R i j l) (i:=i) (j:=j) (λa b aF=>U2 _ _ aF) hi.1 hi.2.2 hi.2.1
  rw[A0d]at h1
  have h2:=h.cnt
  omega
section
variable {s:CS} {M:Nat}
theorem B9z{e I:Int}(h:e≠0):M8 e I=e:=if_neg h
theorem V9(h:s.e≠0)(I:Int):s.note I=s:=by
 show(⟨s.H,M8 s.e I⟩:CS)=s
 rw[B9z h]
theorem A73(h:s.e≠0)(i:Nat)(l:List Nat):s.put i l=s:=by
 show(⟨A1g s.e s.H i l,s.e⟩:CS)=s
 unfold A1g
 rw[if_neg h]
theorem A21(h:s.e≠0)(i:Nat)(x:L6):s.set i x=s:=by
 unfold CS.set
 rw[V9 h,A73 h]
theorem C15(h:s.e≠0):s.take M=s:=by
 unfold CS.take
 rw[V9 h,A73 h]
theorem C16(h:s.e≠0)(a:Int):s.give M a=s:=by
 unfold CS.give
 rw[V9 h,A73 h]
theorem B2b(h:s.e≠0)(a:Int)(l:List Nat):s.place M a l=s:=by
 unfold CS.place
 split
 ·split
  ·rfl
  ·exact C16 h a
 ·split
  ·rw[C15 h,A73 h]
  ·exact A73 h _ _
theorem B5g(h:s.e≠0)(x:L6)(bs:List (List Nat)):∀j,(fl M x bs s j).1=s
 |0=>rfl
 |j+1=>by
  show(fl M x bs s j).1.place M (x.a j) (bs.getD j [])=s
  rw[B5g h x bs j]
  exact B2b h _ _
theorem B2c(h:s.e≠0)(i g:Int)(l:List En):s.setEn M i g l=s:=by
 unfold CS.setEn
 rw[V9 h,V9 h]
 show CS.set (fl M _ _ s 8).1 _ _=s
 rw[B5g h]
 exact A21 h _ _
theorem B2d(h:s.e≠0)(i g:Int)(x:En):s.enter M i g x=s:=by
 unfold CS.enter
 rw[V9 h]
 exact B2c h _ _ _
theorem B90(h:s.e≠0)(i g:Int)(x:ByteArray):s.leave M i g x=s:=by
 unfold CS.leave
 rw[V9 h]
 exact B2c h _ _ _
theorem A0k(h:s.e≠0)(i g:Int):s.touch i g=s:=by
 unfold CS.touch
 split
 ·rw[V9 h,V9 h];exact A21 h _ _
 ·rw[V9 h];exact A21 h _ _
theorem B5h(h:s.e≠0)(i g:Int):s.free M i g=s:=by
 unfold CS.free
 rw[V9 h]
 show CS.set (fl M _ _ s 8).1 _ _=s
 rw[B5g h]
 exact A21 h _ _
end
section
variable {s:CS} {M i j:Nat} {P:Nat->Nat->Int} {R:Nat->Nat->List Nat} {l:List Nat}
structure C5x (s s':CS) (M i j:Nat) (P:Nat->Nat->Int) (R:Nat->Nat->List Nat) (l:List Nat) (a:Int):Prop where
 e:s'.e=0
 ow:Ow s'.H M (up2 P i j a) (up2 R i j l)
 low:∀k,k≠1->k<42->s'.H k=s.H k
 df:∀k,s'.H k≠s.H k->k=1\/(l≠[]/\(k:Int)=a)
theorem Ow.place(h:Ow s.H M P R)(hw:Sw s.H M)(he:s.e=0)(hi:In8 i j)(hl:l=[]\/(l.length=128/\∀y∈l,y<256)):
 C5x s (s.place M (P i j) l) M i j P R l (s.placeI M (P i j) l)\/((s.place M (P i j) l).e=8/\P i j=0/\l≠[]/\A0C (D3 s.H M)=0):=by
 obtain⟨aL,aF⟩:=hw.sd.rep
 have hM:=hw.sd.hM
 have aK:=h.pt i j hi
 have aD:=h.nz i j hi
 by_cases V:l=[]
 ·subst V
  have aB:s.placeI M (P i j) []=0:=if_pos rfl
  rw[aB]
  by_cases J:P i j=0
  ·have Z:s.place M (P i j) []=s:=by unfold CS.place;rw[if_pos rfl,if_pos J]
   rw[Z]
   refine .inl ⟨he,?_,λ_ _ _=>rfl,λk I=>absurd rfl I⟩
   rw[show(0:Int)=P i j from J.symm,B1Z,show([]:List Nat)=R i j from(aD.1 J).symm,B1Z]
   exact h
  ·have hp:42<=P i j/\P i j<M:=by rcases aK with x|x;exact absurd x J;exact x
   have hh:0<=P i j/\P i j<((D3 s.H M).length:Int):=by rw[aF];omega
   have aC:(D3 s.H M).getD (P i j).toNat false=true:=(h.bit _ (by omega) (by omega)).2 ⟨i,j,hi,by omega⟩
   have hg:A1T (D3 s.H M) (P i j)=0:=by unfold A1T;rw[if_pos (show U0 (D3 s.H M) (P i j)from hh),if_pos aC]
   have Z:s.place M (P i j) []=⟨N6 s.H 1 (mapB (Z5 (D3 s.H M) (P i j))),0⟩:=by
    unfold CS.place CS.give CS.note CS.put A1g
    rw[if_pos rfl,if_neg J,he,hg]
    rfl
   have aG:Z5 (D3 s.H M) (P i j)=(D3 s.H M).set (P i j).toNat false:=by unfold Z5;rw[if_pos (show U0 (D3 s.H M) (P i j)from hh)]
   obtain⟨aP,Y⟩:=hw.map (T:=Z5 (D3 s.H M) (P i j)) ⟨A53 (s.H 1) (P i j).toNat,by rw[aG];exact aL.drop (by omega) (by omega)⟩ (by rw[A4o,aF]) (λk I=>by rw[A7u hh,if_neg (by omega)];exact hw.low k I)
   rw[Z]
   refine .inl ⟨rfl,?_,λk I _=>H7 _ _ I,λk I=>?_⟩
   ·refine h.upd hi (.inl rfl) ⟨λ_=>rfl,λ_=>rfl⟩ (λx=>absurd rfl x) (λk I _=>H7 _ _ (by omega)) (λk aH aI=>?_) (λx=>absurd rfl x) ?_
    ·show(D3 (N6 s.H 1 _) M).getD k false=_
     rw[Y,A7u hh,if_neg (by omega:¬(k:Int)=0)]
     by_cases e:k=(P i j).toNat
     ·rw[if_pos e,if_pos (by omega)]
     ·rw[if_neg e,if_neg (by omega)]
    ·show A0C (D3 (N6 s.H 1 _) M)+0=_
     rw[Y,aG,A0Z (λx=>J (aD.2 x))]
     have:=A72 (T:=D3 s.H M) (k:=(P i j).toNat) false (by omega)
     rw[aC]at this
     simpa using this
   ·by_cases e:k=1
    ·exact .inl e
    ·exact absurd (H7 _ _ e) I
 ·obtain⟨aQ,aR⟩:l.length=128/\∀y∈l,y<256:=by rcases hl with x|x;exact absurd x V;exact x
  by_cases J:P i j=0
  ·by_cases W:L9 (D3 s.H M)<(D3 s.H M).length
   ·have y1:Y0 (D3 s.H M)=(L9 (D3 s.H M):Int):=by unfold Y0;rw[if_pos W]
    have y2:Y1 (D3 s.H M)=0:=by unfold Y1;rw[if_pos W]
    have aB:s.placeI M (P i j) l=(L9 (D3 s.H M):Int):=by unfold CS.placeI;rw[if_neg V,if_pos J,y1]
    have aO:=A3J hw.low W
    obtain⟨U,aA⟩:∃U,U=L9 (D3 s.H M):=⟨_,rfl⟩
    have aE:=B2a W
    obtain⟨aP,Y⟩:=hw.map (T:=Y9 (D3 s.H M)) ⟨_,aL.put W (by omega)⟩ (by rw[A4n,aF]) (λk I=>by
     rw[A7t W]
     split
     ·rfl
     ·exact hw.low k I)
    have Z:s.place M (P i j) l=⟨N6 (N6 s.H 1 (mapB (Y9 (D3 s.H M)))) U l,0⟩:=by
     unfold CS.place CS.take CS.note CS.put A1g
     rw[if_neg V,if_pos J,he,y2,y1,aA]
     rfl
    rw[Z,aB,<-aA]
    rw[<-aA]at aO aE W
    have aJ:D3 (N6 (N6 s.H 1 (mapB (Y9 (D3 s.H M)))) U l) M=Y9 (D3 s.H M):=by
     have:∀X:Nat->List Nat,D3 (N6 X U l) M=D3 X M:=λX=>by unfold D3;rw[H7 _ _ (show 1≠U by omega)]
     exact(this _).trans Y
    refine .inl ⟨rfl,?_,λk I aM=>?_,λk I=>?_⟩
    ·refine h.upd hi (.inr (by omega)) ⟨λx=>by omega,λx=>absurd x V⟩ (λ_=>?_) (λk I aN=>?_) (λk aH aI=>?_) (λ_=>.inr (by simpa using aE)) ?_
     ·show N6 _ U l (U:Int).toNat=l
      rw[Int.toNat_natCast,A0n]
     ·show N6 _ U l k=_
      rw[H7 _ _ (by omega),H7 _ _ (by omega)]
     ·show(D3 (N6 (N6 s.H 1 _) U l) M).getD k false=_
      rw[aJ,A7t (by rw[<-aA];exact W),<-aA]
      by_cases e:k=U
      ·rw[if_pos e,if_pos (by omega)]
      ·rw[if_neg e,if_neg (by omega),if_neg (by omega)]
     ·show A0C (D3 (N6 (N6 s.H 1 _) U l) M)+_=_
      rw[aJ,A0Z V,aD.1 J,B9x]
      have:=A72 (T:=D3 s.H M) (k:=U) true W
      rw[aE]at this
      unfold Y9
      rw[<-aA]
      simpa using this
    ·show N6 _ U l k=_
     rw[H7 _ _ (by omega),H7 _ _ I]
    ·by_cases e:k=1
     ·exact .inl e
     ·refine .inr ⟨V,?_⟩
      by_cases e2:k=U
      ·rw[e2]
      ·exact absurd (by show N6 _ U l k=_;rw[H7 _ _ e2,H7 _ _ e]) I
   ·refine .inr ⟨?_,J,V,?_⟩
    ·have y2:Y1 (D3 s.H M)=8:=by unfold Y1;rw[if_neg W]
     unfold CS.place CS.take CS.note CS.put
     rw[if_neg V,if_pos J,he,y2]
     rfl
    ·have:=(not_congr (B9y (T:=D3 s.H M))).1 W
     omega
  ·have hp:42<=P i j/\P i j<M:=by rcases aK with x|x;exact absurd x J;exact x
   have aB:s.placeI M (P i j) l=P i j:=by unfold CS.placeI;rw[if_neg V,if_neg J]
   have Z:s.place M (P i j) l=⟨N6 s.H (P i j).toNat l,0⟩:=by
    unfold CS.place CS.put A1g
    rw[if_neg V,if_neg J,he]
    rfl
   have Y:D3 (N6 s.H (P i j).toNat l) M=D3 s.H M:=by unfold D3;rw[H7 _ _ (by omega)]
   have aC:(D3 s.H M).getD (P i j).toNat false=true:=(h.bit _ (by omega) (by omega)).2 ⟨i,j,hi,by omega⟩
   rw[Z,aB]
   refine .inl ⟨rfl,?_,λk I aM=>H7 _ _ (by omega),λk I=>?_⟩
   ·refine h.upd hi (.inr hp) ⟨λx=>absurd x J,λx=>absurd x V⟩ (λ_=>A0n _ _ _) (λk I aN=>H7 _ _ (by omega)) (λk aH aI=>?_) (λ_=>.inl rfl) ?_
    ·show(D3 (N6 s.H _ l) M).getD k false=_
     rw[Y]
     by_cases e:(k:Int)=P i j
     ·rw[if_pos e,<-aC]
      congr 1
      omega
     ·rw[if_neg e,if_neg e]
    ·show A0C (D3 (N6 s.H _ l) M)+_=_
     rw[Y,A0Z V,A0Z (λx=>J (aD.2 x))]
   ·refine .inr ⟨V,?_⟩
    by_cases e:k=(P i j).toNat
    ·omega
    ·exact absurd (H7 _ _ e) I
end
def B91(P:Nat->Nat->Int)(i n:Nat)(a:Nat->Int):Nat->Nat->Int:=λx b=>if x=i/\b<n then a b else P x b
def A8j(R:Nat->Nat->List Nat)(i n:Nat)(bs:List (List Nat)):Nat->Nat->List Nat:=λx b=>if x=i/\b<n then bs.getD b []else R x b
structure FlD (s s':CS) (M i n:Nat) (P:Nat->Nat->Int) (R:Nat->Nat->List Nat) (bs:List (List Nat)) (a:Nat->Int):Prop where
 e:s'.e=0
 ow:Ow s'.H M (B91 P i n a) (A8j R i n bs)
 low:∀k,k≠1->k<42->s'.H k=s.H k
 df:∃K:List Nat,K.length<=min n bs.length/\∀k,s'.H k≠s.H k->k=1\/k∈K
theorem Ow.fl{s:CS}{M i:Nat}{P:Nat->Nat->Int}{R:Nat->Nat->List Nat}(h:Ow s.H M P R)(hw:Sw s.H M)(he:s.e=0)(hi:1<=i/\i<=40)(x:L6)(Z:∀j,j<8->x.a j=P i j){bs:List (List Nat)}(W:A0c bs):
 ∀n,n<=8->FlD s (fl M x bs s n).1 M i n P R bs (fl M x bs s n).2\/((Go.Proofs.YtbefmjiclpobjaaGreat.fl M x bs s n).1.e=8/\∃j,j<n/\R i j=[]/\bs.getD j []≠[]/\A0e (A8j R i j bs) 40+42=M)
 |0,_=>by
  refine .inl ⟨he,h.congr (λa b _=>?_) (λa b _=>?_),λ_ _ _=>rfl,⟨[],Nat.zero_le _,λk V=>absurd rfl V⟩⟩
  ·unfold B91;rw[if_neg (by omega)]
  ·unfold A8j;rw[if_neg (by omega)]
 |n+1,hn=>by
  have aE:∀j,j<8->x.a j=0\/(42<=x.a j/\x.a j<M):=λj Y=>by rw[Z j Y];exact h.pt i j ⟨hi.1,hi.2,Y⟩
  have aD:=A4v hw W aE n (by omega)
  rcases Ow.fl h hw he hi x Z W n (by omega)with J|⟨J,j,Y,aF⟩
  ·have aB:B91 P i n (Go.Proofs.YtbefmjiclpobjaaGreat.fl M x bs s n).2 i n=x.a n:=by unfold B91;rw[if_neg (by omega),Z n (by omega)]
   have aC:A8j R i n bs i n=R i n:=by unfold A8j;rw[if_neg (by omega)]
   have aA:=J.ow.place (i:=i) (j:=n) (l:=bs.getD n []) aD J.e ⟨hi.1,hi.2,by omega⟩ (W.at_ n)
   rw[aB]at aA
   rcases aA with⟨p1,p2,p3,p4⟩|⟨p1,p2,p3,p4⟩
   ·refine .inl ⟨p1,p2.congr (λa b _=>?_) (λa b _=>?_),λk h1 h2=>(p3 k h1 h2).trans (J.low k h1 h2),?_⟩
    ·unfold B91 up2
     show(if a=i/\b<n+1 then(if b=n then _ else _)else _)=(if a=i/\b=n then _ else(if a=i/\b<n then _ else _))
     by_cases I:a=i
     ·by_cases U:b=n
      ·rw[if_pos ⟨I,by omega⟩,if_pos U,if_pos ⟨I,U⟩]
      ·by_cases X:b<n
       ·rw[if_pos ⟨I,by omega⟩,if_neg U,if_neg (by omega),if_pos ⟨I,X⟩]
       ·rw[if_neg (by omega),if_neg (by omega),if_neg (by omega)]
     ·rw[if_neg (by omega),if_neg (by omega),if_neg (by omega)]
    ·unfold A8j up2
     show(if a=i/\b<n+1 then _ else _)=(if a=i/\b=n then _ else(if a=i/\b<n then _ else _))
     by_cases I:a=i
     ·by_cases U:b=n
      ·rw[if_pos ⟨I,by omega⟩,if_pos ⟨I,U⟩,U]
      ·by_cases X:b<n
       ·rw[if_pos ⟨I,by omega⟩,if_neg (by omega),if_pos ⟨I,X⟩]
       ·rw[if_neg (by omega),if_neg (by omega),if_neg (by omega)]
     ·rw[if_neg (by omega),if_neg (by omega),if_neg (by omega)]
    ·obtain⟨K,hK,hd⟩:=J.df
     by_cases hq:bs.getD n []=[]
     ·refine⟨K,by omega,λk V=>?_⟩
      by_cases e:((Go.Proofs.YtbefmjiclpobjaaGreat.fl M x bs s n).1.place M (x.a n) (bs.getD n [])).H k=(Go.Proofs.YtbefmjiclpobjaaGreat.fl M x bs s n).1.H k
      ·exact hd k (by rw[<-e];exact V)
      ·rcases p4 k e with y|⟨y,_⟩
       ·exact .inl y
       ·exact absurd hq y
     ·have aG:n<bs.length:=by
       rcases Nat.lt_or_ge n bs.length with y|y
       ·exact y
       ·exact absurd (by rw[List.getD_eq_getElem?_getD,List.getElem?_eq_none y];rfl) hq
      refine⟨((Go.Proofs.YtbefmjiclpobjaaGreat.fl M x bs s n).1.placeI M (x.a n) (bs.getD n [])).toNat::K,by rw[List.length_cons];omega,λk V=>?_⟩
      by_cases e:((Go.Proofs.YtbefmjiclpobjaaGreat.fl M x bs s n).1.place M (x.a n) (bs.getD n [])).H k=(Go.Proofs.YtbefmjiclpobjaaGreat.fl M x bs s n).1.H k
      ·rcases hd k (by rw[<-e];exact V)with y|y
       ·exact .inl y
       ·exact .inr (List.mem_cons_of_mem _ y)
      ·rcases p4 k e with y|⟨_,y⟩
       ·exact .inl y
       ·exact .inr (List.mem_cons.2 (.inl (by omega)))
   ·refine .inr ⟨p1,n,by omega,?_,p3,?_⟩
    ·rw[<-aC]
     exact(J.ow.nz i n ⟨hi.1,hi.2,by omega⟩).1 (by rw[aB];exact p2)
    ·have:=J.ow.cnt
     omega
  ·refine .inr ⟨?_,j,by omega,aF⟩
   show((Go.Proofs.YtbefmjiclpobjaaGreat.fl M x bs s n).1.place M (x.a n) (bs.getD n [])).e=8
   rw[B2b (by rw[J];decide),J]
end
end Go.Proofs.YtbefmjiclpobjaaGreat
