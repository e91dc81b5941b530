import Derived.Test.YtbefmjiclpobjaaGreatMi26
import Derived.BigQuiet
namespace Go.Proofs.YtbefmjiclpobjaaGreat
set_option maxHeartbeats 6400000
set_option maxRecDepth 3000
section
open Go.RowKit Go.Maps
def J2(H H0:Nat->List Nat):Nat->Option (List Nat):=λj=>if H j=H0 j then none else some (H j)
theorem C1l{A O:Nat->Option (List Nat)}{L:Nat->List Nat}(h:∀i,(O i).isSome=true->(A i).isSome=true):A5D A (vwH O L)=J2 (vwH A L) (vwH O L):=by
 funext j
 unfold A5D J2
 cases hA:A j with
 |none=>
  have U:O j=none:=by
   cases hq:O j with
   |none=>rfl
   |some x=>have:=h j (by rw[hq];rfl);rw[hA]at this;cases this
  have I:vwH A L j=L j:=by unfold vwH;rw[hA];rfl
  have J:vwH O L j=L j:=by unfold vwH;rw[U];rfl
  rw[I,J,if_pos rfl,if_neg (by simp)]
 |some b=>
  have I:vwH A L j=b:=by unfold vwH;rw[hA];rfl
  rw[I]
  by_cases e:b=vwH O L j
  ·rw[if_pos (by rw[e]),if_pos e]
  ·rw[if_neg (λx=>e (Option.some.inj x)),if_neg e]
def B1M(E:Ev)(H:Nat->List Nat)(e:Int):(DS×LS)×Int:=
 if e=0 then
  if(A0n E.s E.n E.N E.g (E8 (J2 H E.H) E.M)).2=0 then R4 (A0n E.s E.n E.N E.g (E8 (J2 H E.H) E.M)).1.1 (A0n E.s E.n E.N E.g (E8 (J2 H E.H) E.M)).1.2
  else A0n E.s E.n E.N E.g (E8 (J2 H E.H) E.M)
 else((E.s,E.g),e)
def Ev.at_(E:Ev)(F:Nat->Prop)(s:DS)(g:LS)(O:Nat->Option (List Nat)):Ev:=⟨F,E.d,E.l,E.b,E.n,E.N,s,g,E.o,E.mo,O⟩
def EF(E:Ev)(c m:Nat):Nat->Prop:=λk=>E.U k\/k=E.mo\/CF c m k
def OtR(E:Ev)(r:(DS×LS)×Int)(I:Nat->Option (List Nat)):Prop:=
 I=E.O\/∃T B,r=R4 (A0n E.s E.n E.N E.g (E8 T E.M)).1.1 (A0n E.s E.n E.N E.g (E8 T E.M)).1.2/\r.2≠0/\(A0n E.s E.n E.N E.g (E8 T E.M)).2=0/\I=B37 E.O B/\(∀i,B i=none\/B i=some (E.H i))/\∀i,(T i).isSome=true->(B i).isSome=true
def A5U(w:World)(E:Ev)(c m:Nat)(r:(DS×LS)×Int)(x:Ending)(w':World):Prop:=
 x= .returned (.int .i64 r.2)/\∃F' I,So w' (E.at_ F' r.1.1 r.1.2 I)/\OtR E r I/\B1 (EF E c m) w (EF (E.at_ F' r.1.1 r.1.2 I) c m) w'
theorem So.moved{w w':World}{E:Ev}{F':Nat->Prop}{s:DS}{g:LS}(h:So w E)(hr:Rs w' F' E.d E.l E.b E.n E.N s g)(I:B1 (UF E.F E.l E.b) w (UF F' E.l E.b) w')(X:AOk E.M g.A):So w' (E.at_ F' s g E.O):=by
 obtain⟨b1,V,W⟩:=h.bd
 have Z:¬UF F' E.l E.b E.o:=λU=>by
  rcases I.into _ U with x|x
  ·exact h.so x
  ·omega
 have Y:¬UF F' E.l E.b E.mo:=λU=>by
  rcases I.into _ U with x|x
  ·exact h.sm x
  ·omega
 have J:=h.blk.keep (I.block _ V h.so)
 exact⟨⟨hr,h.vu.hn,X,J.cell 0,J.cell 1,J.lt,h.vu.mp.keep (I.block _ W h.sm),h.vu.ok⟩,J,Z,Y⟩
theorem So.otherwise{w w':World}{E:Ev}{J:Nat->Option (List Nat)}(h:So w E)(X:Mp w' E.mo E.M J)(U:B1 (L6 E.mo) w (L6 E.mo) w')(W:AOk E.M J):So w' (E.at_ E.F E.s E.g J):=by
 obtain⟨Z,V,b3⟩:=h.bd
 have Y:E.o≠E.mo:=h.vu.mp.ne h.blk
 have I:=h.blk.keep (U.block _ V Y)
 exact⟨⟨⟨h.vu.rs.dk.far U (λk x y=>by unfold L6 at x;subst x;exact h.sm (.inl y)),h.vu.rs.lg.far U (λk x y=>by unfold L6 at x;subst x;exact h.sm (.inr y)),h.vu.rs.sep⟩,h.vu.hn,h.vu.lA,I.cell 0,I.cell 1,I.lt,X,W⟩,I,h.so,h.sm⟩
theorem So.m_le{w:World}{E:Ev}(h:So w E):E.M<=4096:=by
 have:=h.vu.hn
 unfold Ev.M
 omega
theorem So.m_ne{w:World}{E:Ev}{k:Nat}(h:So w E)(J:w.heap.size<=k):E.mo≠k:=λx=>by
 have I:=h.bd.2.2
 omega
theorem C3f{M:Nat}{O B:Nat->Option (List Nat)}(h:AOk M O)(k:AOk M B):AOk M (B37 O B):=λi x I=>by
 unfold B37 at I
 split at I
 ·exact k i x I
 ·exact h i x I
theorem B0g{w Y w2 Z:World}{E:Ev}{c m:Nat}{V W:Nat->Prop}{s:DS}{g:LS}{O:Nat->Option (List Nat)}(I:B1 (CF c m) w (CF c m) Y)(a2:B1 (UF E.F E.l E.b) Y (UF V E.l E.b) w2)(a3:B1 (UF V E.l E.b) w2 (UF W E.l E.b) Z):B1 (EF E c m) w (EF (E.at_ W s g O) c m) Z:=by
 have J:=a2.trans a3
 refine⟨J.os.trans I.os,J.tape.trans I.tape,J.output.trans I.output,Nat.le_trans I.size J.size,λk U X=>?_,λk U=>?_⟩
 ·exact(J.block k (Nat.lt_of_lt_of_le U I.size) (λx=>X (.inl x))).trans (I.block k U (λx=>X (.inr (.inr x))))
 ·rcases U with x|x|x
  ·rcases J.into k x with y|y
   ·exact .inl (.inl y)
   ·exact .inr (Nat.le_trans I.size y)
  ·exact .inl (.inr (.inl x))
  ·exact .inl (.inr (.inr x))
theorem C1m{w W w2 X Y:World}{E:Ev}{c m:Nat}{U V:Nat->Prop}{s:DS}{g:LS}{O:Nat->Option (List Nat)}(Z:B1 (CF c m) w (CF c m) W)(a2:B1 (UF E.F E.l E.b) W (UF U E.l E.b) w2)(a3:B1 (UF U E.l E.b) w2 (UF V E.l E.b) X)(I:B1 (L6 E.mo) X (L6 E.mo) Y):B1 (EF E c m) w (EF (E.at_ V s g O) c m) Y:=by
 have a:=B0g (E:=E) (s:=s) (g:=g) (O:=O) Z a2 a3
 exact a.trans ⟨I.os,I.tape,I.output,I.size,λk J hn=>I.block k J (λx=>hn (.inr (.inl x))),λk J=>.inl J⟩
theorem C47{w:World}{E:Ev}{c m:Nat}{H:Nat->List Nat}{e:Int}(h:Cg w E c m H e)(aW:∀i,i<E.M->(E.H i).length=128/\∀x∈E.H i,x<256)(hw:e=0->WOk E.n E.N E.s E.g)
 (hA:e=0->AOk E.M (A0n E.s E.n E.N E.g (E8 (J2 H E.H) E.M)).1.2.A):Calls Tryz.prog 46 #[.pointer (some ⟨c,0,none⟩)] w (A5U w E c m (B1M E H e)):=by
 have HC:=C5Z h
 have aJ:=C5Z (B8U h aW)
 unfold C2X at aJ
 have bQ:=C5Z aW
 have HW:=C5Z hw
 have HA:=C5Z hA
 clear h aW hw hA
 by_cases he:e=0
 ·subst he
  have aF:=C5Z (aJ.out.mono (R':=λx w'=>∃I,x= .returned (.map (some I))/\So w' E/\C3 w' c 175 #[.pointer (some ⟨E.l,0,none⟩),.map (some m),.pointer (some ⟨E.o,0,none⟩),.int .i64 0]/\Mp w' m E.M (J2 H E.H)/\AOk E.M (J2 H E.H)/\(∃B,Mp w' I E.M B/\AOk E.M B/\(∀i,B i=none\/B i=some (E.H i))/\∀i,(J2 H E.H i).isSome=true->(B i).isSome=true)/\w.heap.size<=I/\B1 (CF c m) w (CF c m) w'/\w'.cell? ⟨c,3,none⟩=some (.int .i64 0)) λx w' V=>by
   obtain⟨I,A,h1,h2,h3,h4,h5,h6,h7,h8,h9,aV⟩:=V
   have et:A5D A E.H=J2 H E.H:=by rw[h6];exact C1l h8
   refine⟨I,h1,h2,h3,by rw[<-et];exact h4,?_,⟨B30 A E.H,h5,?_,λi=>(by unfold B30;split;exact .inr rfl;exact .inl rfl),λi hi=>(by
    rw[<-et]at hi
    unfold B30
    have ha:(A i).isSome=true:=(by
     unfold A5D at hi
     split at hi
     ·cases hi
     ·exact hi)
    rw[if_pos ha];rfl)⟩,h9,aV,h3.cell 3⟩
   ·rw[<-et]
    intro i x V
    unfold A5D at V
    split at V
    ·cases V
    ·exact h7 i x V
   ·intro i x V
    unfold B30 at V
    split at V
    ·rename_i hs
     obtain⟨y,hy⟩:=Option.isSome_iff_exists.1 hs
     have hi:=(h7 i y hy).1
     cases V
     exact⟨hi,bQ.out i hi⟩
    ·cases V)
  obtain⟨T,hT⟩:∃T,T=J2 H E.H:=⟨_,rfl⟩
  have hE:B1M E H 0=if(A0n E.s E.n E.N E.g (E8 T E.M)).2=0 then R4 (A0n E.s E.n E.N E.g (E8 T E.M)).1.1 (A0n E.s E.n E.N E.g (E8 T E.M)).1.2 else A0n E.s E.n E.N E.g (E8 T E.M):=by rw[hT];rfl
  rw[hE]
  have aB:=C5Z (HA.out rfl)
  rw[<-hT]at aF aB
  have aE:=C5Z (λW (so:So W E) (b:C3 W c 175 #[.pointer (some ⟨E.l,0,none⟩),.map (some m),.pointer (some ⟨E.o,0,none⟩),.int .i64 0]) (hm:Mp W m E.M T) (ok:AOk E.M T)=>C1k b HC.out.sc.1 hm so.vu.hn.2.2.2 ok so.vu.rs (HW.out rfl))
  unfold WrR at aE
  have bC:=C5Z (show A0n E.s E.n E.N E.g (E8 T (E.N-2-E.n))=A0n E.s E.n E.N E.g (E8 T E.M)from rfl)
  rw[bC.out]at aE
  obtain⟨R,hR⟩:∃R,R=A0n E.s E.n E.N E.g (E8 T E.M):=⟨_,rfl⟩
  have bD:=C5Z hR
  rw[<-hR]at aE aB⊢
  obtain⟨⟨s1,g1⟩,er⟩:=R
  simp only at aE aB⊢
  clear hE hT hR HA aJ bC
  by_cases aR:er=0
  ·subst aR
   rw[if_pos rfl]
   have aO:=C5Z (λW F1 (r:Rs W F1 E.d E.l E.b E.n E.N s1 g1)=>B7R E.l E.b E.d E.n E.N g1 F1 s1 W r)
   unfold WrR at aO
   have aP:=C5Z (show(R4 s1 g1).1.2.A=g1.A by unfold R4;split<;>rfl)
   obtain⟨R,hR⟩:∃R,R=R4 s1 g1:=⟨_,rfl⟩
   have bR:=C5Z hR
   rw[<-hR]at aO aP⊢
   obtain⟨⟨s2,g2⟩,eq⟩:=R
   simp only at aO aP⊢
   clear hR
   by_cases aQ:eq=0
   ·subst aQ
    go_enter Tryz.func46,Tryz.ntmps46
    go_wp2_with (first
     |(go_at_call 105;refine aF.out.mono ?_;rintro r w1 ⟨I,rfl,Y,b1,m1,aC,hB,aG,X,c3⟩;have aA:=C5Z Y;have Z:=C5Z b1;have aK:=C5Z m1;have aL:=C5Z aC;have aD:=C5Z X;clear Y b1 m1 aC hB aG X)
     |(go_at_call 106;refine(aE.out w1 aA.out Z.out aK.out aL.out).mono ?_;rintro r w2 ⟨rfl,F2,r2,J⟩;have aU:=C5Z r2;have aH:=C5Z J;have aM:=C5Z (aA.out.moved r2 J aB.out);have aI:=C5Z (Z.out.keep (J.block c Z.out.lt HC.out.sc.1));have bT:w2.cell? ⟨c,0,none⟩=some (.pointer (some ⟨E.l,0,none⟩)):=aI.out.cell 0;clear r2 J c3)
     |(go_at_call 107;refine(aO.out w2 F2 aU.out).mono ?_;rintro r w3 ⟨rfl,F3,r3,a3⟩;have aN:=C5Z (aM.out.moved r3 a3 (by rw[aP.out];exact aB.out));have aS:=C5Z a3;clear r3 a3)
     |fail)
    go_ret
    exact⟨rfl,F3,E.O,aN.out,.inl rfl,B0g aD.out aH.out aS.out⟩
   ·have bJ:(eq !=0)=true:=by rw[bne_iff_ne];exact aQ
    have bP:=C5Z aQ
    clear aQ
    go_enter Tryz.func46,Tryz.ntmps46
    go_wp2_with (first
     |(go_at_call 105;refine aF.out.mono ?_;rintro r w1 ⟨I,rfl,Y,b1,m1,aC,hB,aG,X,c3⟩;have aA:=C5Z Y;have Z:=C5Z b1;have aK:=C5Z m1;have aL:=C5Z aC;have aD:=C5Z X;obtain⟨B,bG,bH,bI⟩:=hB;have aY:=C5Z bI;clear bI;have aT:=C5Z bG;have aX:=C5Z bH;have aZ:=C5Z aG;clear Y b1 m1 aC bG bH aG X)
     |(go_at_call 106;refine(aE.out w1 aA.out Z.out aK.out aL.out).mono ?_;rintro r w2 ⟨rfl,F2,r2,J⟩;have aU:=C5Z r2;have aH:=C5Z J;have aM:=C5Z (aA.out.moved r2 J aB.out);have aI:=C5Z (Z.out.keep (J.block c Z.out.lt HC.out.sc.1));have bB:=C5Z (show∀z,z<w1.heap.size->¬E.U z->¬UF F2 E.l E.b z fromλz hz hu V=>(by rcases J.into z V with y|y;exact hu y;omega));have bF:=C5Z (show¬E.U I fromλhu=>(by have h1:=HC.out.so.bd.1 _ hu;have h2:=aZ.out;omega));have bA:=C5Z (aT.out.keep (J.block I aT.out.lt bF.out));have bT:w2.cell? ⟨c,0,none⟩=some (.pointer (some ⟨E.l,0,none⟩)):=aI.out.cell 0;clear r2 J c3)
     |(go_at_call 107;refine(aO.out w2 F2 aU.out).mono ?_;rintro r w3 ⟨rfl,F3,r3,a3⟩;have aN:=C5Z (aM.out.moved r3 a3 (by rw[aP.out];exact aB.out));have aS:=C5Z a3;have bM:=C5Z (aI.out.keep (a3.block c aI.out.lt (bB.out c Z.out.lt HC.out.sc.1)));have bO:=C5Z (bA.out.keep (a3.block I bA.out.lt (bB.out I aT.out.lt bF.out)));have bV:w3.cell? ⟨c,2,none⟩=some (.pointer (some ⟨E.o,0,none⟩)):=bM.out.cell 2;have bU:w3.cell? ⟨E.o,1,none⟩=some (.map (some E.mo)):=aN.out.vu.c1;clear r3 a3)
     |(go_at_call 108;refine(C3e (O:=E.O) (B:=B) aN.out.vu.mp bO.out (HC.out.so.m_ne aZ.out) HC.out.so.m_le aX.out).mono ?_;rintro r w4 ⟨rfl,m4,a4⟩;have bS:=C5Z (aN.out.otherwise m4 a4 (C3f HC.out.so.vu.ok aX.out));have bK:=C5Z a4;clear m4 a4)
     |fail)
    go_ret
    exact⟨rfl,F3,_,bS.out,.inr ⟨T,B,(by rw[<-bD.out];exact bR.out),bP.out,(by rw[<-bD.out]),rfl,aY.out.1,aY.out.2⟩,C1m aD.out aH.out aS.out bK.out⟩
  ·rw[if_neg aR]
   have bJ:(er !=0)=true:=by rw[bne_iff_ne];exact aR
   clear aR
   go_enter Tryz.func46,Tryz.ntmps46
   go_wp2_with (first
    |(go_at_call 105;refine aF.out.mono ?_;rintro r w1 ⟨I,rfl,Y,b1,m1,aC,hB,aG,X,c3⟩;have aA:=C5Z Y;have Z:=C5Z b1;have aK:=C5Z m1;have aL:=C5Z aC;have aD:=C5Z X;clear Y b1 m1 aC hB aG X)
    |(go_at_call 106;refine(aE.out w1 aA.out Z.out aK.out aL.out).mono ?_;rintro r w2 ⟨rfl,F2,r2,J⟩;have aH:=C5Z J;have aM:=C5Z (aA.out.moved r2 J aB.out);clear r2 J c3)
    |fail)
   go_ret
   exact⟨rfl,F2,E.O,aM.out,.inl rfl,B0g aD.out aH.out (B1.refl _ _)⟩
 ·have hE:B1M E H e=((E.s,E.g),e):=by unfold B1M;rw[if_neg he]
  rw[hE]
  have bJ:(e !=0)=true:=by rw[bne_iff_ne];exact he
  have aF:=C5Z (aJ.out.mono (R':=λx w'=>∃I,x= .returned (.map (some I))/\So w' E/\B1 (CF c m) w (CF c m) w'/\w'.cell? ⟨c,3,none⟩=some (.int .i64 e)) λx w' V=>by
   obtain⟨I,A,h1,h2,h3,h4,h5,h6,h7,h8,h9,aV⟩:=V
   exact⟨I,h1,h2,aV,h3.cell 3⟩)
  clear hE he aJ HA HW
  go_enter Tryz.func46,Tryz.ntmps46
  go_wp2_with (first
   |(go_at_call 105;refine aF.out.mono ?_;rintro r w1 ⟨I,rfl,Y,X,c3⟩;have aA:=C5Z Y;have aD:=C5Z X;clear Y X)
   |fail)
  go_ret
  exact⟨rfl,E.F,E.O,aA.out,.inl rfl,B0g aD.out (B1.refl _ _) (B1.refl _ _)⟩
end
section
open Go.RowKit
theorem B1N:(Tryz.prog.info? 9).map (λi=>(i.zero,i.size,i.bytes))=some (some (.string ByteArray.empty),1,16):=by kernel_rfl
theorem C3.rdT{w:World}{z n:Nat}{t:TypeId}{C:List Value}(h:C3 w z t C.toArray)(I:C.length=n)(U:n<=100)(V:0<n):Rd w 1 (.slice (some ⟨z,0,none⟩) n n) n C:=
 ⟨_,n,rfl,Nat.le_refl _,by unfold maxLen;omega,by simpa using I,λe=>(by cases e),λ_=>⟨_,rfl,h.lt,λj u J=>by
  have e:(⟨z,0,none⟩:Addr).add j=⟨z,j,none⟩:=by rw[add_none,Nat.zero_add]
  rw[e]
  have:=h.cell j
  rw[List.getElem?_toArray]at this
  rw[this];exact J⟩⟩
section
variable {ops:Array Oper} {rest:List Oper} {o:Oper} {a:Act} {w:World} {Q:Exit->Act->World->Prop}
theorem M7(J:o.guard=none)(x:Operand)(V:o.op= .buildSlice 218 1 #[(0,x)])(s:ByteArray)(W:a.eval x= .string s)
 (h:∀z w',w.heap.size<=z->Rd w' 1 (.slice (some ⟨z,0,none⟩) 1 1) 1 ([s].map Value.string)->B1 B5 w B5 w'->wpList Tryz.prog ops Q rest (a.put o.dst (.slice (some ⟨z,0,none⟩) 1 1)) w'):wpList Tryz.prog ops Q (o::rest) a w:=by
 obtain⟨Y,U,X,I,_⟩:=info_parts B1N
 refine wpList_buildSlice J 218 9 1 _ V #[.string s] Y _ Tryz.underlying218 U X (by rw[I];decide) (by rw[I];decide) ?_ (h _ _ (Nat.le_refl _) (C3.rdT (C:=[.string s]) (C3.new _ _ _) rfl (by decide) (by decide)) ((B1.refl _ _).alloc _))
 rw[I]
 simp[W,Instr.fill,Value.cells,Array.range]
 all_goals rfl
theorem Z0(J:o.guard=none)(x y:Operand)(V:o.op= .buildSlice 218 2 #[(0,x),(1,y)])(s t:ByteArray)(W:a.eval x= .string s)(X:a.eval y= .string t)
 (h:∀z w',w.heap.size<=z->Rd w' 1 (.slice (some ⟨z,0,none⟩) 2 2) 2 ([s,t].map Value.string)->B1 B5 w B5 w'->wpList Tryz.prog ops Q rest (a.put o.dst (.slice (some ⟨z,0,none⟩) 2 2)) w'):wpList Tryz.prog ops Q (o::rest) a w:=by
 obtain⟨Z,U,Y,I,_⟩:=info_parts B1N
 refine wpList_buildSlice J 218 9 2 _ V #[.string s,.string t] Z _ Tryz.underlying218 U Y (by rw[I];decide) (by rw[I];decide) ?_ (h _ _ (Nat.le_refl _) (C3.rdT (C:=[.string s,.string t]) (C3.new _ _ _) rfl (by decide) (by decide)) ((B1.refl _ _).alloc _))
 rw[I]
 simp[W,X,Instr.fill,Value.cells,Array.range]
 all_goals rfl
end
section
variable {p M:Nat} {H:Nat->List Nat} {w:World}
theorem A1k(h:Rdv w p M H):Calls Tryz.prog 73 #[.pointer (some ⟨p,0,none⟩)] w λe w'=>e= .returned (.bool true)/\w=w':=by
 obtain⟨l,I,_⟩:=h.homes _ _ (B1.refl B5 w)
 exact C2G p l w I
noncomputable def B9h(H:Nat->List Nat)(i g:Int)(s:ByteArray):Int:=if A0a [s]=0 then L4 H i g s else A0a [s]
noncomputable def B9i(H:Nat->List Nat)(i g:Int)(s:ByteArray):En:=if A0a [s]=0 then J6 H i g s else A1i
theorem B9j(h:Rdv w p M H)(hs:Sd H M)(i g:Int)(s:ByteArray)(hm:s.size<=maxLen):Calls Tryz.prog 31 #[.pointer (some ⟨p,0,none⟩),.agg #[.int .i64 i,.int .i64 g],.string s] w (EnX w (B9i H i g s) (B9h H i g s)):=by
 have HF:=C5Z (λV (a:B1 B5 w B5 V)=>A7l (h.step a) hs i g s)
 have HM:=C5Z (λV (a:B1 B5 w B5 V)=>A1k (h.step a))
 have HC:=C5Z (λV z (r:Rd V 1 (.slice (some ⟨z,0,none⟩) 1 1) 1 ([s].map Value.string))=>A6g (.slice (some ⟨z,0,none⟩) 1 1) [s] V r (λt ht=>by rw[List.mem_singleton.1 ht];exact hm) (by simp))
 obtain⟨L,hL⟩:∃L,L=J6 H i g s:=⟨_,rfl⟩
 obtain⟨er,aK⟩:∃er,er=L4 H i g s:=⟨_,rfl⟩
 obtain⟨W,aB⟩:∃W,W=A0a [s]:=⟨_,rfl⟩
 have e1:B9i H i g s=if W=0 then L else A1i:=by rw[aB,hL];rfl
 have e2:B9h H i g s=if W=0 then er else W:=by rw[aB,aK];rfl
 rw[<-aB]at HC
 rw[<-hL,<-aK]at HF
 rw[e1,e2]
 unfold EnX at HF⊢
 clear hL aK aB h hs e1 e2 hm
 by_cases Z:W=0
 ·subst Z
  rw[if_pos rfl,if_pos rfl]
  go_enter Tryz.func31,Tryz.ntmps31
  go_wp2_with (first
   |(refine C4 rfl _ rfl rfl ?_;intro z0 w0 U J I;have aE:=C5Z J;have X:=C5Z I;clear U J I)
   |(refine B9 rfl rfl D1 ?_;intro z w1 U J I;have HZ:=C5Z (Nat.le_trans X.out.size U);have aG:=C5Z J;have Y:=C5Z (X.out.trans I);have aL:=C5Z (aE.out.over I);clear U J I)
   |(go_at_call 73;refine(HM.out _ Y.out).mono ?_;rintro e w2 ⟨rfl,rfl⟩)
   |(refine M7 rfl _ rfl s rfl ?_;intro z3 w3 U J I;have aJ:=C5Z J;have aC:=C5Z (Y.out.trans I);have aN:=C5Z (aL.out.over I);have aH:=C5Z (aG.out.over I);clear U J I)
   |(go_at_call 79;refine(HC.out _ _ aJ.out).mono ?_;rintro e w4 ⟨rfl,I⟩;have aA:=C5Z (aC.out.trans I);have aO:=C5Z (aN.out.over I);have aI:=C5Z (aH.out.over I);clear I)
   |(refine B6 rfl _ rfl z0 aO.out rfl Tryz.underlying35 rfl B0 rfl ?_)
   |(go_at_call 80;refine(HF.out _ aA.out).mono ?_;rintro e w5 ⟨rfl,I⟩;have aM:=C5Z (aA.out.trans I);have aP:=C5Z (aI.out.over I);clear I)
   |(refine B7 rfl _ _ rfl z aP.out rfl rfl C7 (C6 _) (C6 _) (L8 _) ?_;intro w6 J I;have aF:=C5Z J;have aD:=C5Z (aM.out.fresh HZ.out I);clear J I)
   |fail)
  exact bodyPost_ret (R5 rfl _ _ rfl rfl aF.out Tryz.underlying74 rfl (by rw[C7];rfl)) rfl ⟨rfl,aD.out⟩
 ·rw[if_neg Z,if_neg Z]
  have J:(W !=0)=true:=by rw[bne_iff_ne];exact Z
  clear Z
  go_enter Tryz.func31,Tryz.ntmps31
  go_wp2_with (first
   |(refine C4 rfl _ rfl rfl ?_;intro z0 w0 U J I;have aE:=C5Z J;have X:=C5Z I;clear U J I)
   |(refine B9 rfl rfl D1 ?_;intro z w1 U J I;have HZ:=C5Z (Nat.le_trans X.out.size U);have aG:=C5Z J;have Y:=C5Z (X.out.trans I);have aL:=C5Z (aE.out.over I);clear U J I)
   |(go_at_call 73;refine(HM.out _ Y.out).mono ?_;rintro e w2 ⟨rfl,rfl⟩)
   |(refine M7 rfl _ rfl s rfl ?_;intro z3 w3 U J I;have aJ:=C5Z J;have aC:=C5Z (Y.out.trans I);have aH:=C5Z (aG.out.over I);clear U J I)
   |(go_at_call 79;refine(HC.out _ _ aJ.out).mono ?_;rintro e w4 ⟨rfl,I⟩;have aA:=C5Z (aC.out.trans I);have aI:=C5Z (aH.out.over I);clear I)
   |(refine A0s rfl rfl ?_)
   |(refine B7 rfl _ _ rfl z aI.out rfl rfl C7 (C6 _) (C6 _) (L8 _) ?_;intro w6 J I;have aF:=C5Z J;have aD:=C5Z (aA.out.fresh HZ.out I);clear J I)
   |fail)
  exact bodyPost_ret (R5 rfl _ _ rfl rfl aF.out Tryz.underlying74 rfl (by rw[C7];rfl)) rfl ⟨rfl,aD.out⟩
end
end
section
open Go.RowKit Go.Maps
section
variable {p M:Nat} {H:Nat->List Nat} {w:World}
noncomputable def A29(H:Nat->List Nat)(i g a:Int):Int:=
 if 0<=a/\a<8 then(if Q9 H i g 2=0 then A2d H ((fileX H i g).a a.toNat)else Q9 H i g 2)else 2
noncomputable def A43(H:Nat->List Nat)(i g a:Int):ByteArray:=if A29 H i g a=0 then A3v H ((fileX H i g).a a.toNat)else⟨#[]⟩
noncomputable def A44(H:Nat->List Nat)(i g a:Int):Nat:=if A29 H i g a=0 then(fileX H i g).v else 0
theorem B9k(X:M5)(j:Nat)(I:j<8):(ic X)[3+j]? =some (.int .i64 (X.a j)):=by
 have h:j=0\/j=1\/j=2\/j=3\/j=4\/j=5\/j=6\/j=7:=by omega
 rcases h with rfl|rfl|rfl|rfl|rfl|rfl|rfl|rfl<;>rfl
theorem C3g(h:Rdv w p M H)(hs:Sd H M)(i g a:Int):Calls Tryz.prog 34 #[.pointer (some ⟨p,0,none⟩),.agg #[.int .i64 i,.int .i64 g],.int .i64 a] w λe w'=>e= .returned (.tuple #[.string (A43 H i g a),.int .u64 (A44 H i g a:Int),.int .i64 (A29 H i g a)])/\B1 B5 w B5 w':=by
 have HM:=C5Z (λV (a:B1 B5 w B5 V)=>A1k (h.step a))
 have aE:=C5Z (λV=>A5A a V)
 by_cases aA:0<=a/\a<8
 ·obtain⟨j,rfl⟩:∃j:Nat,a=(j:Int):=⟨a.toNat,by omega⟩
  have hj:j<8:=by omega
  have aF:(decide (0<=(j:Int))&&decide ((j:Int)<8))=true:=by rw[decide_eq_true aA.1,decide_eq_true aA.2];rfl
  rw[aF]at aE
  have HF:=C5Z (λV (a:B1 B5 w B5 V)=>A23 (h.step a) hs i g 2)
  unfold A7Z at HF
  by_cases Z:Q9 H i g 2=0
  ·obtain⟨_,_,h3⟩:=A1h Z
   have hp:=(X9 hs i g).2.1 j hj
   have HD:=C5Z (λV (a:B1 B5 w B5 V)=>C2N (h.step a) hs _ hp)
   rw[h3,Z]at HF
   have Y:A29 H i g (j:Int)=A2d H ((fileX H i g).a j):=by unfold A29;rw[if_pos aA,if_pos Z];rfl
   have eS:A43 H i g (j:Int)=if A2d H ((fileX H i g).a j)=0 then A3v H ((fileX H i g).a j)else⟨#[]⟩:=by unfold A43;rw[Y];rfl
   have eV:A44 H i g (j:Int)=if A2d H ((fileX H i g).a j)=0 then(fileX H i g).v else 0:=by unfold A44;rw[Y]
   rw[Y,eS,eV]
   obtain⟨X,hX⟩:∃X,X=fileX H i g:=⟨_,rfl⟩
   rw[<-hX]at HF HD⊢
   obtain⟨A,hA⟩:∃A,A=X.a j:=⟨_,rfl⟩
   have HP:=C5Z (show(ic X)[3+j]? =some (.int .i64 A)by rw[hA];exact B9k X j hj)
   rw[<-hA]at HD⊢
   obtain⟨er,aJ⟩:∃er,er=A2d H A:=⟨_,rfl⟩
   obtain⟨S,hS⟩:∃S,S=A3v H A:=⟨_,rfl⟩
   rw[<-aJ,<-hS]at HD⊢
   have aP:(0:Int)<=(j:Int):=by omega
   have aO:(j:Int)<8:=by omega
   obtain⟨V,hV⟩:∃V,V=X.v:=⟨_,rfl⟩
   rw[<-hV]
   have aL:=C5Z (show(ic X)[2]? =some (.int .u64 (V:Int))by rw[hV];rfl)
   clear hX hA aJ hS hp h3 Z aA aF h hs Y eS eV hV hj
   by_cases h0:er=0
   ·subst h0
    rw[if_pos rfl,if_pos rfl]
    go_enter Tryz.func34,Tryz.ntmps34
    go_wp2_with (first
     |(refine C4 rfl _ rfl rfl ?_;intro z0 w0 U J I;have aD:=C5Z J;have W:=C5Z I;clear U J I)
     |(go_at_call 73;refine(HM.out _ W.out).mono ?_;rintro e w2 ⟨rfl,rfl⟩)
     |(go_at_call 85;refine(aE.out _).mono ?_;rintro e w2 ⟨rfl,rfl⟩)
     |(refine B6 (t:=35) rfl _ rfl z0 aD.out rfl Tryz.underlying35 rfl B0 rfl ?_)
     |(go_at_call 86;refine(HF.out _ W.out).mono ?_;rintro e w2 ⟨rfl,I⟩;have aB:=C5Z (W.out.trans I);clear I)
     |(refine B9 rfl rfl C8 ?_;intro z5 w5 U J I;have aH:=C5Z J;have aG:=C5Z (aB.out.trans I);have aI:=C5Z (Nat.le_trans aB.out.size U);clear U J I)
     |(refine B7 rfl _ _ rfl z5 aH.out rfl rfl C0 (C2 _) (C2 _) (D6 _) ?_;intro w6 J I;have aM:=C5Z J;have aC:=C5Z (aG.out.fresh aI.out I);have c6:w6.cell? ⟨z5,3+j,none⟩=some (.int .i64 A):=(by rw[J.cell];exact HP.out);clear J I)
     |(go_at_call 87;refine(HD.out _ aC.out).mono ?_;rintro e w7 ⟨rfl,I⟩;have aK:=C5Z (aC.out.trans I);have aN:=C5Z (aM.out.over I);have c7:w7.cell? ⟨z5,2,none⟩=some (.int .u64 (V:Int)):=(by rw[aN.out.cell];exact aL.out);clear I c6)
     |fail)
    go_quiet (fail)
    go_wp2
    exact bodyPost_ret (results_tmp3 rfl _ _ _) rfl ⟨rfl,aK.out.drewN _⟩
   ·rw[if_neg h0,if_neg h0]
    have J:(er !=0)=true:=by rw[bne_iff_ne];exact h0
    clear h0
    go_enter Tryz.func34,Tryz.ntmps34
    go_wp2_with (first
     |(refine C4 rfl _ rfl rfl ?_;intro z0 w0 U J I;have aD:=C5Z J;have W:=C5Z I;clear U J I)
     |(go_at_call 73;refine(HM.out _ W.out).mono ?_;rintro e w2 ⟨rfl,rfl⟩)
     |(go_at_call 85;refine(aE.out _).mono ?_;rintro e w2 ⟨rfl,rfl⟩)
     |(refine B6 (t:=35) rfl _ rfl z0 aD.out rfl Tryz.underlying35 rfl B0 rfl ?_)
     |(go_at_call 86;refine(HF.out _ W.out).mono ?_;rintro e w2 ⟨rfl,I⟩;have aB:=C5Z (W.out.trans I);clear I)
     |(refine B9 rfl rfl C8 ?_;intro z5 w5 U J I;have aH:=C5Z J;have aG:=C5Z (aB.out.trans I);have aI:=C5Z (Nat.le_trans aB.out.size U);clear U J I)
     |(refine B7 rfl _ _ rfl z5 aH.out rfl rfl C0 (C2 _) (C2 _) (D6 _) ?_;intro w6 J I;have aC:=C5Z (aG.out.fresh aI.out I);have c6:w6.cell? ⟨z5,3+j,none⟩=some (.int .i64 A):=(by rw[J.cell];exact HP.out);clear J I)
     |(go_at_call 87;refine(HD.out _ aC.out).mono ?_;rintro e w7 ⟨rfl,I⟩;have aK:=C5Z (aC.out.trans I);clear I c6)
     |fail)
    exact bodyPost_ret (results_tmp3 rfl _ _ _) rfl ⟨rfl,aK.out⟩
  ·have Y:A29 H i g (j:Int)=Q9 H i g 2:=by unfold A29;rw[if_pos aA,if_neg Z]
   have eS:A43 H i g (j:Int)=⟨#[]⟩:=by unfold A43;rw[Y,if_neg Z]
   have eV:A44 H i g (j:Int)=0:=by unfold A44;rw[Y,if_neg Z]
   rw[Y,eS,eV]
   obtain⟨er,aJ⟩:∃er,er=Q9 H i g 2:=⟨_,rfl⟩
   obtain⟨X,hX⟩:∃X,X=A7h H i g 2:=⟨_,rfl⟩
   rw[<-aJ]at HF Z⊢
   rw[<-hX]at HF
   have J:(er !=0)=true:=by rw[bne_iff_ne];exact Z
   clear aJ hX Z aA aF h hs Y eS eV hj
   go_enter Tryz.func34,Tryz.ntmps34
   go_wp2_with (first
    |(refine C4 rfl _ rfl rfl ?_;intro z0 w0 U J I;have aD:=C5Z J;have W:=C5Z I;clear U J I)
    |(go_at_call 73;refine(HM.out _ W.out).mono ?_;rintro e w2 ⟨rfl,rfl⟩)
    |(go_at_call 85;refine(aE.out _).mono ?_;rintro e w2 ⟨rfl,rfl⟩)
    |(refine B6 (t:=35) rfl _ rfl z0 aD.out rfl Tryz.underlying35 rfl B0 rfl ?_)
    |(go_at_call 86;refine(HF.out _ W.out).mono ?_;rintro e w2 ⟨rfl,I⟩;have aB:=C5Z (W.out.trans I);clear I)
    |(refine B9 rfl rfl C8 ?_;intro z5 w5 U J I;have aH:=C5Z J;have aG:=C5Z (aB.out.trans I);have aI:=C5Z (Nat.le_trans aB.out.size U);clear U J I)
    |(refine B7 rfl _ _ rfl z5 aH.out rfl rfl C0 (C2 _) (C2 _) (D6 _) ?_;intro w6 J I;have aC:=C5Z (aG.out.fresh aI.out I);clear J I)
    |fail)
   exact bodyPost_ret (results_tmp3 rfl _ _ _) rfl ⟨rfl,aC.out⟩
 ·have Y:A29 H i g a=2:=by unfold A29;rw[if_neg aA]
  have eS:A43 H i g a=⟨#[]⟩:=by unfold A43;rw[Y];rfl
  have eV:A44 H i g a=0:=by unfold A44;rw[Y];rfl
  have aF:(decide (0<=a)&&decide (a<8))=false:=by
   rw[Bool.and_eq_false_iff]
   by_cases h1:0<=a
   ·right;exact decide_eq_false (λx=>aA ⟨h1,x⟩)
   ·left;exact decide_eq_false h1
  rw[aF]at aE
  rw[Y,eS,eV]
  clear h hs aA aF Y eS eV
  go_enter Tryz.func34,Tryz.ntmps34
  go_wp2_with (first
   |(refine C4 rfl _ rfl rfl ?_;intro z0 w0 U J I;have aD:=C5Z J;have W:=C5Z I;clear U J I)
   |(go_at_call 73;refine(HM.out _ W.out).mono ?_;rintro e w2 ⟨rfl,rfl⟩)
   |(go_at_call 85;refine(aE.out _).mono ?_;rintro e w2 ⟨rfl,rfl⟩)
   |fail)
  exact bodyPost_ret (results_tmp3 rfl _ _ _) rfl ⟨rfl,W.out⟩
end
end
section
open Go.RowKit
section
variable {s:CS} {M:Nat}
theorem B4P{a:Int}{l:List Nat}(h:(s.place M a l).e=0):s.e=0:=by
 unfold CS.place at h
 split at h
 ·split at h
  ·exact h
  ·exact(X8 h).1
 ·split at h
  ·exact(X8 h).1
  ·exact h
theorem C3h{x:M5}{bs:List (List Nat)}:∀j,(fl M x bs s j).1.e=0->s.e=0
 |0,h=>h
 |j+1,h=>C3h j (B4P h)
theorem B38{x:M5}{bs:List (List Nat)}(h:Sw s.H M)(J:A0f bs)(I:∀j,j<8->x.a j=0\/(42<=x.a j/\x.a j<M)):∀j,j<=8->(fl M x bs s j).1.e=0->∀i,i<8->(fl M x bs s j).2 i=0\/(42<=(fl M x bs s j).2 i/\(fl M x bs s j).2 i<M)
 |0,_,_,i,hi=>I i hi
 |j+1,hj,he,i,hi=>by
  have U:=B38 h J I j (by omega) (B4P he) i hi
  show(if i=j then _ else _)=0\/(42<=(if i=j then _ else _)/\(if i=j then _ else _)<(M:Int))
  split
  ·rcases A5k (s:=(fl M x bs s j).1) (l:=bs.getD j []) (A40 h J I j (by omega)) (I j (by omega))with y|y|⟨y,_⟩
   ·exact .inl y
   ·exact .inr y
   ·exact absurd he y
  ·exact U
theorem C3i{x:M5}(h:A8b x=0):okI x:=by
 unfold A8b at h
 split at h
 ·assumption
 ·cases h
theorem A3R(h:Sw s.H M){i:Nat}{x:M5}(W:WfI x)(hi:s.e=0->1<=i/\i<=40)(V:s.e=0->∀j,j<8->x.a j=0\/(42<=x.a j/\x.a j<M)):Sw (s.set i x).H M:=by
 show Sw (if N7 s.e (A8b x)=0 then P1 s.H (1+i) (secI x)else s.H) M
 split
 ·rename_i U
  obtain⟨I,J⟩:=X8 U
  exact(h.setI (hi I) W (C3i J) (V I)).1
 ·exact h
theorem B1P(h:Sw s.H M)(i g:Int)(l:List En):Sw (s.setEn M i g l).H M:=by
 obtain⟨V,J,_⟩:=X9 h.sd i g
 have I:Sw ((s.note (bE l)).note (fileE s.H i g)).H M:=h
 unfold CS.setEn
 refine A3R (A40 I (A6h l) J 8 (Nat.le_refl _)) (A7t I (A6h l) J V) (λe=>?_) (λe=>B38 I (A6h l) J 8 (Nat.le_refl _) e)
 have U:=C3h 8 e
 have:=S9 (X8 U).2
 omega
theorem B1Q(h:Sw s.H M)(i g:Int)(x:En):Sw (s.enter M i g x).H M:=B1P (s:=s.note _) h i g _
theorem B1R(h:Sw s.H M)(i g:Int)(x:ByteArray):Sw (s.leave M i g x).H M:=B1P (s:=s.note _) h i g _
theorem B9l(h:Sw s.H M)(i g:Int):WfI (upI (fileX s.H i g)):=by
 obtain⟨I,_,h3⟩:=X9 h.sd i g
 exact⟨I.k,I.g,by show(fileX s.H i g).v+1<_;omega,I.a⟩
theorem C1n(h:Sw s.H M)(i g:Int):WfI (A8c (fileX s.H i g)):=by
 obtain⟨I,_,h3⟩:=X9 h.sd i g
 exact⟨by show -9223372036854775808<=(0:Int)/\(0:Int)<9223372036854775808;decide,I.g,by show 0<18446744073709551616;decide,λj _=>by show -9223372036854775808<=(0:Int)/\(0:Int)<9223372036854775808;decide⟩
theorem B9m(h:Sw s.H M)(i g:Int):Sw (s.touch i g).H M:=by
 obtain⟨J,I,_⟩:=X9 h.sd i g
 unfold CS.touch
 split
 ·refine A3R (s:=(s.note (fileE s.H i g)).note 8) h (B9l h i g) (λe=>?_) (λ_=>I)
  have:=S9 (X8 (X8 e).1).2
  omega
 ·refine A3R (s:=s.note (fileE s.H i g)) h (B9l h i g) (λe=>?_) (λ_=>I)
  have:=S9 (X8 e).2
  omega
theorem B0h(h:Sw s.H M)(i g:Int):Sw (s.free M i g).H M:=by
 obtain⟨X,U,_⟩:=X9 h.sd i g
 have J:Sw (s.note (fileE s.H i g)).H M:=h
 have V:A0f []:=λr W=>by simp at W
 unfold CS.free
 refine A3R (A40 J V U 8 (Nat.le_refl _)) (C1n h i g) (λe=>?_) (λ_ j _=>.inl rfl)
 have I:=C3h 8 e
 have:=S9 (X8 I).2
 omega
theorem C1o(h:Sw s.H M)(i g:Int)(J:ByteArray)(I:Int):Sw (s.repl M i g J I).H M:=by
 unfold CS.repl
 split
 ·exact h
 ·split
  ·exact B0h (s:=(s.note _).note _) h _ _
  ·exact B0h (s:=((s.note _).note _).note _) h _ _
end
end
end Go.Proofs.YtbefmjiclpobjaaGreat
