import Derived.Test.YtbefmjiclpobjaaGreatMi37
namespace Go.Proofs.YtbefmjiclpobjaaGreat
set_option maxHeartbeats 6400000
set_option maxRecDepth 3000
section
open Go.RowKit Go.Maps
structure D11 where
 k:Int
 n:Int
 fi:Int
 fg:Int
 gi:Int
 gg:Int
 s:ByteArray
 t:ByteArray
 kv:Value
def d11(x:D11):Array Value:= #[.int .i64 x.k,.int .i64 x.n,.int .i64 x.fi,.int .i64 x.fg,.int .i64 x.gi,.int .i64 x.gg,.string x.s,.string x.t,x.kv]
def dnC(f:Int×Int)(n:Nat)(e:Int):Array Value:= #[.int .i64 f.1,.int .i64 f.2,.int .u64 (n:Int),.int .i64 e]
theorem A7E:(Tryz.prog.info? 38).map (λi=>(i.zero,i.size,i.bytes))=some (some (.agg #[.int .i64 0,.int .i64 0,.int .i64 0,.int .i64 0,.int .i64 0,.int .i64 0,.string ⟨#[]⟩,.string ⟨#[]⟩,.slice none 0 0]),9,104):=by kernel_rfl
theorem A2J:(Tryz.prog.info? 42).map (λi=>(i.zero,i.size,i.bytes))=some (some (.agg #[.int .i64 0,.int .i64 0,.int .u64 0,.int .i64 0]),4,32):=by kernel_rfl
theorem X7:(Tryz.prog.info? 42).map (·.size)=some 4:=by kernel_rfl
theorem A7F(a b c e:Int):(#[Value.int .i64 a,.int .i64 b,.int .u64 c,.int .i64 e]).all (·.oneCell')=true:=by simp[Value.oneCell']
theorem B2v(a b e:Int):Tryz.prog.built 42 [(0,.agg #[.int .i64 a,.int .i64 b]),(2,.int .i64 e)]=some #[.int .i64 a,.int .i64 b,.int .u64 0,.int .i64 e]:=by kernel_rfl
theorem B2w(e:Int):Tryz.prog.built 42 [(2,.int .i64 e)]=some #[.int .i64 0,.int .i64 0,.int .u64 0,.int .i64 e]:=by kernel_rfl
theorem B2x(c e:Int):Tryz.prog.built 42 [(1,.int .u64 c),(2,.int .i64 e)]=some #[.int .i64 0,.int .i64 0,.int .u64 c,.int .i64 e]:=by kernel_rfl
section
variable {ops:Array Oper} {rest:List Oper} {o:Oper} {a:Act} {w:World} {Q:Exit->Act->World->Prop}
theorem B0s(V:o.guard=none)(x y:Operand)(X:o.op= .build 42 #[(0,x),(2,y)])(I J e:Int)(Y:a.eval x= .agg #[.int .i64 I,.int .i64 J])(hy:a.eval y= .int .i64 e)
 (h:wpList Tryz.prog ops Q rest (a.put o.dst (.agg #[.int .i64 I,.int .i64 J,.int .u64 0,.int .i64 e])) w):wpList Tryz.prog ops Q (o::rest) a w:=by
 have U:((#[(0,x),(2,y)]:Array (Nat×Operand)).map λ(i,x)=>(i,a.eval x)).toList=[(0,.agg #[.int .i64 I,.int .i64 J]),(2,.int .i64 e)]:=by simp[Y,hy]
 refine wpList_build V 42 _ X (by rw[U,B2v];rfl) ?_
 rw[U,B2v]
 exact h
theorem A4A(J:o.guard=none)(x:Operand)(U:o.op= .build 42 #[(2,x)])(e:Int)(V:a.eval x= .int .i64 e)
 (h:wpList Tryz.prog ops Q rest (a.put o.dst (.agg #[.int .i64 0,.int .i64 0,.int .u64 0,.int .i64 e])) w):wpList Tryz.prog ops Q (o::rest) a w:=by
 have I:((#[(2,x)]:Array (Nat×Operand)).map λ(i,x)=>(i,a.eval x)).toList=[(2,.int .i64 e)]:=by simp[V]
 refine wpList_build J 42 _ U (by rw[I,B2w];rfl) ?_
 rw[I,B2w]
 exact h
theorem A4B(J:o.guard=none)(x y:Operand)(U:o.op= .build 42 #[(1,x),(2,y)])(c e:Int)(V:a.eval x= .int .u64 c)(X:a.eval y= .int .i64 e)
 (h:wpList Tryz.prog ops Q rest (a.put o.dst (.agg #[.int .i64 0,.int .i64 0,.int .u64 c,.int .i64 e])) w):wpList Tryz.prog ops Q (o::rest) a w:=by
 have I:((#[(1,x),(2,y)]:Array (Nat×Operand)).map λ(i,x)=>(i,a.eval x)).toList=[(1,.int .u64 c),(2,.int .i64 e)]:=by simp[V,X]
 refine wpList_build J 42 _ U (by rw[I,B2x];rfl) ?_
 rw[I,B2x]
 exact h
end
theorem L5{w:World}{z:Nat}{t:TypeId}{C:Array Value}(h:C3 w z t C)(j:Nat):w.cell? ⟨z,j,none⟩=C[j]? :=h.cell j
theorem A0V{w:World}{z:Nat}{t:TypeId}{x:D11}(h:C3 w z t (d11 x)):w.rangeAt z 2 [.int .i64 x.fi,.int .i64 x.fg]:=λj u I=>by
 have J:j<2:=(List.getElem?_eq_some_iff.1 I).1
 match j,J with
 |0,_=>simp at I;subst I;exact h.cell 2
 |1,_=>simp at I;subst I;exact h.cell 3
theorem A0W{w:World}{z:Nat}{t:TypeId}{x:D11}(h:C3 w z t (d11 x)):w.rangeAt z 4 [.int .i64 x.gi,.int .i64 x.gg]:=λj u I=>by
 have J:j<2:=(List.getElem?_eq_some_iff.1 I).1
 match j,J with
 |0,_=>simp at I;subst I;exact h.cell 4
 |1,_=>simp at I;subst I;exact h.cell 5
noncomputable def doR(A:As)(M:Nat)(x:D11):As×(Int×Int)×Nat×Int:=
 if x.k=0 then((A0U A M x.fi x.fg x.s x.n).1,(A0U A M x.fi x.fg x.s x.n).2.1,0,(A0U A M x.fi x.fg x.s x.n).2.2)
 else if x.k=1 then((A2H A x.fi x.fg x.s).1,(0,0),0,(A2H A x.fi x.fg x.s).2)
 else if x.k=2 then((A5u A M x.fi x.fg x.s x.gi x.gg x.t).1,(0,0),0,(A5u A M x.fi x.fg x.s x.gi x.gg x.t).2)
 else if x.k=3 then((A1F A M x.fi x.fg x.n x.s).1,(0,0),(A1F A M x.fi x.fg x.n x.s).2.1,(A1F A M x.fi x.fg x.n x.s).2.2)
 else((A48 A x.fi x.fg).1,(0,0),(A48 A x.fi x.fg).2.1,(A48 A x.fi x.fg).2.2)
section
variable {W w w' w1:World} {Z Z':Nat->Prop} {d o n N k:Nat} {A A':As}
theorem R6.trans(h:R6 Z w w')(J:R6 Z w' w1):R6 Z w w1:=λz I=>(J z I).trans (h z I)
theorem R6.adv{F':Nat->Prop}(J:∀z,Z z->z<w.heap.size)(I:B1 B5 w F' w'):R6 Z w w':=λz h=>I.block z (J z h) (λx=>x)
theorem Hs.less(h:Hs W w Z' d o n N k A)(U:∀z,Z z->Z' z):Hs W w Z d o n N k A:=by
 obtain⟨E,V,X,h3,Y,h5,J⟩:=h.ex
 exact⟨⟨E,V,X,h3,Y,h5,λj I=>⟨(J j I).1,λy=>(J j I).2 (U j y)⟩⟩,h.adv,λj I=>h.zb j (U j I)⟩
theorem A2K{w2 U V:World}{F':Nat->Prop}{z3 J k':Nat}(h:Hs W w Z d o n N k A)(a2:B1 B5 w B5 w2)(h4:w.heap.size<=J)(hk:R6 (λj=>(Z j\/j=z3)\/j=J) w2 U)(Y:Hs W U (λj=>(Z j\/j=z3)\/j=J) d o n N k' A')(X:B1 (L6 J) U F' V):Hs W V Z d o n N k' A'/\R6 Z w V:=by
 have hw:W.heap.size<=J:=Nat.le_trans h.adv.size h4
 refine⟨(Y.turn (.inr rfl) hw X).less (λz I=>.inl (.inl I)),λz I=>?_⟩
 have aA:=h.zb z I
 exact(X.block z (Y.zb z (.inl (.inl I))) (λy=>by unfold L6 at y;omega)).trans ((hk z (.inl (.inl I))).trans (a2.block z aA (λy=>y)))
theorem C3z(h:Hs W w Z d o n N k A)(hk:k<=127)(Y X U gi gg:Int)(s t:ByteArray)(kv:Value)(hm:s.size<=maxLen/\t.size<=maxLen):Calls Tryz.prog 14 #[.pointer (some ⟨o,0,none⟩),.agg (d11 ⟨0,Y,X,U,gi,gg,s,t,kv⟩)] w λr w'=>
 r= .returned (.agg (dnC (doR A (N-2-n) ⟨0,Y,X,U,gi,gg,s,t,kv⟩).2.1 (doR A (N-2-n) ⟨0,Y,X,U,gi,gg,s,t,kv⟩).2.2.1 (doR A (N-2-n) ⟨0,Y,X,U,gi,gg,s,t,kv⟩).2.2.2))/\Hs W w' Z d o n N (k+3) (doR A (N-2-n) ⟨0,Y,X,U,gi,gg,s,t,kv⟩).1/\R6 Z w w':=by
 obtain⟨R,hR⟩:∃R,R=A0U A (N-2-n) X U s Y:=⟨_,rfl⟩
 have hd:doR A (N-2-n) ⟨0,Y,X,U,gi,gg,s,t,kv⟩=(R.1,R.2.1,0,R.2.2):=by
  rw[hR]
  rfl
 rw[hd]
 have HC:=C5Z (λV Z' (aS:Hs W V Z' d o n N k A)=>show Calls Tryz.prog 36 #[.pointer (some ⟨o,0,none⟩),.agg #[.int .i64 X,.int .i64 U],.string s,.int .i64 Y] V λr w'=>r= .returned (.tuple #[.agg #[.int .i64 R.2.1.1,.int .i64 R.2.1.2],.int .i64 R.2.2])/\Hs W w' Z' d o n N (k+3) R.1/\R6 Z' V w' from(by have:=aS.create hk X U s Y hm.1;rw[<-hR]at this;exact this))
 have HS:=C5Z h
 clear hd hR h hk hm
 obtain⟨R1,⟨aY,aZ⟩,R3⟩:=R
 simp only at HC⊢
 go_enter Tryz.func14,Tryz.ntmps14
 go_wp2_with (first
  |(refine C4 (t:=38) rfl _ rfl rfl ?_;intro z3 w1 hz J I;have aD:=C5Z J;have aT:=C5Z (HS.out.more I z3 hz J.lt);have aC:=C5Z I;clear hz J I)
  |(refine B9 rfl rfl A2J ?_;intro z4 w2 hz J I;have aE:=C5Z J;have aA:=C5Z (aD.out.over I);have aU:=C5Z (aT.out.more I z4 hz J.lt);have aI:=C5Z (aC.out.trans I);have aW:=C5Z (Nat.le_trans aC.out.size hz);have c0:w2.cell? ⟨z3,0,none⟩=some (.int .i64 (0:Int)):=(L5 aA.out 0);have c1:w2.cell? ⟨z3,1,none⟩=some (.int .i64 Y):=(L5 aA.out 1);have c6:w2.cell? ⟨z3,6,none⟩=some (.string s):=(L5 aA.out 6);have c7:w2.cell? ⟨z3,7,none⟩=some (.string t):=(L5 aA.out 7);have aG:=C5Z (A0V aA.out);have aR:=C5Z (A0W aA.out);clear hz J I aD)
  |(refine wpList_load_mid rfl 35 (.tmp 17) rfl z3 2 rfl [.int .i64 X,.int .i64 U] _ aG.out Tryz.underlying35 rfl (by rw[B0];rfl) ?_)
  |(go_at_call 36;refine(HC.out _ _ aU.out).mono ?_;rintro e w3 ⟨rfl,hs,hk⟩;have aH:=C5Z hs;have aP:=C5Z hk;have aL:=C5Z (aE.out.keep (hk z4 (.inr rfl)));clear hs hk c0 c1 c6 c7 aG aR aE)
  |(refine B9 rfl rfl J0 ?_;intro z5 w4 hz J I;have aX:=C5Z hz;have aF:=C5Z J;have aJ:=C5Z I;clear hz J I)
  |(refine B7 rfl _ _ rfl z5 aF.out rfl rfl B0 rfl rfl (P9 _ _) ?_;intro w5 J I;have aN:=C5Z J;have aB:=C5Z (aJ.out.fresh aX.out I);have aM:=C5Z (aL.out.over aB.out);clear J I aF)
  |(refine B6 (t:=35) rfl _ rfl z5 aN.out rfl Tryz.underlying35 rfl B0 rfl ?_)
  |(refine B0s rfl _ _ rfl _ _ _ rfl rfl ?_)
  |(refine B7 (t:=42) rfl _ _ rfl z4 aM.out rfl rfl X7 rfl rfl (A7F _ _ _ _) ?_;intro w6 J I;have aO:=C5Z J;have aK:=C5Z I;clear J I)
  |fail)
 have aV:=C5Z (aH.out.step aB.out)
 have aQ:=C5Z (aP.out.trans (R6.adv aH.out.zb aB.out))
 exact bodyPost_ret (A3w rfl _ _ rfl aO.out Tryz.underlying42 rfl (by rw[X7];rfl)) rfl ⟨rfl,A2K HS.out aI.out aW.out aQ.out aV.out aK.out⟩
theorem C30(h:Hs W w Z d o n N k A)(hk:k<=127)(Y U J gi gg:Int)(s t:ByteArray)(kv:Value)(hm:s.size<=maxLen/\t.size<=maxLen):Calls Tryz.prog 14 #[.pointer (some ⟨o,0,none⟩),.agg (d11 ⟨1,Y,U,J,gi,gg,s,t,kv⟩)] w λr w'=>
 r= .returned (.agg (dnC (doR A (N-2-n) ⟨1,Y,U,J,gi,gg,s,t,kv⟩).2.1 (doR A (N-2-n) ⟨1,Y,U,J,gi,gg,s,t,kv⟩).2.2.1 (doR A (N-2-n) ⟨1,Y,U,J,gi,gg,s,t,kv⟩).2.2.2))/\Hs W w' Z d o n N (k+3) (doR A (N-2-n) ⟨1,Y,U,J,gi,gg,s,t,kv⟩).1/\R6 Z w w':=by
 obtain⟨R,hR⟩:∃R,R=A2H A U J s:=⟨_,rfl⟩
 have hd:doR A (N-2-n) ⟨1,Y,U,J,gi,gg,s,t,kv⟩=(R.1,(0,0),0,R.2):=by
  rw[hR]
  rfl
 rw[hd]
 have HC:=C5Z (λV Z' (aM:Hs W V Z' d o n N k A)=>show Calls Tryz.prog 33 #[.pointer (some ⟨o,0,none⟩),.agg #[.int .i64 U,.int .i64 J],.string s] V λr w'=>r= .returned (.int .i64 R.2)/\Hs W w' Z' d o n N (k+3) R.1/\R6 Z' V w' from(by have:=aM.remove hk U J s hm.1;rw[<-hR]at this;exact this))
 have HS:=C5Z h
 clear hd hR h hk hm
 obtain⟨R1,R2⟩:=R
 simp only at HC⊢
 go_enter Tryz.func14,Tryz.ntmps14
 go_wp2_with (first
  |(refine C4 (t:=38) rfl _ rfl rfl ?_;intro z3 w1 hz X I;have aC:=C5Z X;have aN:=C5Z (HS.out.more I z3 hz X.lt);have aB:=C5Z I;clear hz X I)
  |(refine B9 rfl rfl A2J ?_;intro z4 w2 hz X I;have aD:=C5Z X;have aA:=C5Z (aC.out.over I);have aO:=C5Z (aN.out.more I z4 hz X.lt);have aF:=C5Z (aB.out.trans I);have aR:=C5Z (Nat.le_trans aB.out.size hz);have c0:w2.cell? ⟨z3,0,none⟩=some (.int .i64 (1:Int)):=(L5 aA.out 0);have c1:w2.cell? ⟨z3,1,none⟩=some (.int .i64 Y):=(L5 aA.out 1);have c6:w2.cell? ⟨z3,6,none⟩=some (.string s):=(L5 aA.out 6);have c7:w2.cell? ⟨z3,7,none⟩=some (.string t):=(L5 aA.out 7);have aE:=C5Z (A0V aA.out);have aL:=C5Z (A0W aA.out);clear hz X I aC)
  |(refine wpList_load_mid rfl 35 (.tmp 32) rfl z3 2 rfl [.int .i64 U,.int .i64 J] _ aE.out Tryz.underlying35 rfl (by rw[B0];rfl) ?_)
  |(go_at_call 33;refine(HC.out _ _ aO.out).mono ?_;rintro e w3 ⟨rfl,hs,hk⟩;have aP:=C5Z hs;have aJ:=C5Z hk;have aH:=C5Z (aD.out.keep (hk z4 (.inr rfl)));clear hs hk c0 c1 c6 c7 aE aL aD)
  |(refine A4A rfl _ rfl _ rfl ?_)
  |(refine B7 (t:=42) rfl _ _ rfl z4 aH.out rfl rfl X7 rfl rfl (A7F _ _ _ _) ?_;intro w6 X I;have aI:=C5Z X;have aG:=C5Z I;clear X I)
  |fail)
 have aQ:=aP
 have aK:=aJ
 exact bodyPost_ret (A3w rfl _ _ rfl aI.out Tryz.underlying42 rfl (by rw[X7];rfl)) rfl ⟨rfl,A2K HS.out aF.out aR.out aK.out aQ.out aG.out⟩
theorem C31(h:Hs W w Z d o n N k A)(hk:k<=127)(nn U J Y X:Int)(s t:ByteArray)(kv:Value)(hm:s.size<=maxLen/\t.size<=maxLen):Calls Tryz.prog 14 #[.pointer (some ⟨o,0,none⟩),.agg (d11 ⟨2,nn,U,J,Y,X,s,t,kv⟩)] w λr w'=>
 r= .returned (.agg (dnC (doR A (N-2-n) ⟨2,nn,U,J,Y,X,s,t,kv⟩).2.1 (doR A (N-2-n) ⟨2,nn,U,J,Y,X,s,t,kv⟩).2.2.1 (doR A (N-2-n) ⟨2,nn,U,J,Y,X,s,t,kv⟩).2.2.2))/\Hs W w' Z d o n N (k+3) (doR A (N-2-n) ⟨2,nn,U,J,Y,X,s,t,kv⟩).1/\R6 Z w w':=by
 obtain⟨R,hR⟩:∃R,R=A5u A (N-2-n) U J s Y X t:=⟨_,rfl⟩
 have hd:doR A (N-2-n) ⟨2,nn,U,J,Y,X,s,t,kv⟩=(R.1,(0,0),0,R.2):=by
  rw[hR]
  rfl
 rw[hd]
 have HC:=C5Z (λV Z' (aM:Hs W V Z' d o n N k A)=>show Calls Tryz.prog 39 #[.pointer (some ⟨o,0,none⟩),.agg #[.int .i64 U,.int .i64 J],.string s,.agg #[.int .i64 Y,.int .i64 X],.string t] V λr w'=>r= .returned (.int .i64 R.2)/\Hs W w' Z' d o n N (k+3) R.1/\R6 Z' V w' from(by have:=aM.rename hk U J s Y X t hm;rw[<-hR]at this;exact this))
 have HS:=C5Z h
 clear hd hR h hk hm
 obtain⟨R1,R2⟩:=R
 simp only at HC⊢
 go_enter Tryz.func14,Tryz.ntmps14
 go_wp2_with (first
  |(refine C4 (t:=38) rfl _ rfl rfl ?_;intro z3 w1 hz hb I;have aC:=C5Z hb;have aN:=C5Z (HS.out.more I z3 hz hb.lt);have aB:=C5Z I;clear hz hb I)
  |(refine B9 rfl rfl A2J ?_;intro z4 w2 hz hb I;have aD:=C5Z hb;have aA:=C5Z (aC.out.over I);have aO:=C5Z (aN.out.more I z4 hz hb.lt);have aG:=C5Z (aB.out.trans I);have aR:=C5Z (Nat.le_trans aB.out.size hz);have c0:w2.cell? ⟨z3,0,none⟩=some (.int .i64 (2:Int)):=(L5 aA.out 0);have c1:w2.cell? ⟨z3,1,none⟩=some (.int .i64 nn):=(L5 aA.out 1);have c6:w2.cell? ⟨z3,6,none⟩=some (.string s):=(L5 aA.out 6);have c7:w2.cell? ⟨z3,7,none⟩=some (.string t):=(L5 aA.out 7);have aE:=C5Z (A0V aA.out);have aF:=C5Z (A0W aA.out);clear hz hb I aC)
  |(refine wpList_load_mid rfl 35 (.tmp 41) rfl z3 2 rfl [.int .i64 U,.int .i64 J] _ aE.out Tryz.underlying35 rfl (by rw[B0];rfl) ?_)
  |(refine wpList_load_mid rfl 35 (.tmp 45) rfl z3 4 rfl [.int .i64 Y,.int .i64 X] _ aF.out Tryz.underlying35 rfl (by rw[B0];rfl) ?_)
  |(go_at_call 39;refine(HC.out _ _ aO.out).mono ?_;rintro e w3 ⟨rfl,hs,hk⟩;have aP:=C5Z hs;have aK:=C5Z hk;have aI:=C5Z (aD.out.keep (hk z4 (.inr rfl)));clear hs hk c0 c1 c6 c7 aE aF aD)
  |(refine A4A rfl _ rfl _ rfl ?_)
  |(refine B7 (t:=42) rfl _ _ rfl z4 aI.out rfl rfl X7 rfl rfl (A7F _ _ _ _) ?_;intro w6 hb I;have aJ:=C5Z hb;have aH:=C5Z I;clear hb I)
  |fail)
 have aQ:=aP
 have aL:=aK
 exact bodyPost_ret (A3w rfl _ _ rfl aJ.out Tryz.underlying42 rfl (by rw[X7];rfl)) rfl ⟨rfl,A2K HS.out aG.out aR.out aL.out aQ.out aH.out⟩
theorem C32(h:Hs W w Z d o n N k A)(hk:k<=127)(Y U J gi gg:Int)(s t:ByteArray)(kv:Value):Calls Tryz.prog 14 #[.pointer (some ⟨o,0,none⟩),.agg (d11 ⟨3,Y,U,J,gi,gg,s,t,kv⟩)] w λr w'=>
 r= .returned (.agg (dnC (doR A (N-2-n) ⟨3,Y,U,J,gi,gg,s,t,kv⟩).2.1 (doR A (N-2-n) ⟨3,Y,U,J,gi,gg,s,t,kv⟩).2.2.1 (doR A (N-2-n) ⟨3,Y,U,J,gi,gg,s,t,kv⟩).2.2.2))/\Hs W w' Z d o n N (k+3) (doR A (N-2-n) ⟨3,Y,U,J,gi,gg,s,t,kv⟩).1/\R6 Z w w':=by
 obtain⟨R,hR⟩:∃R,R=A1F A (N-2-n) U J Y s:=⟨_,rfl⟩
 have hd:doR A (N-2-n) ⟨3,Y,U,J,gi,gg,s,t,kv⟩=(R.1,(0,0),R.2.1,R.2.2):=by
  rw[hR]
  rfl
 rw[hd]
 have HC:=C5Z (λV Z' (aM:Hs W V Z' d o n N k A)=>show Calls Tryz.prog 35 #[.pointer (some ⟨o,0,none⟩),.agg #[.int .i64 U,.int .i64 J],.int .i64 Y,.string s] V λr w'=>r= .returned (.tuple #[.int .u64 (R.2.1:Int),.int .i64 R.2.2])/\Hs W w' Z' d o n N (k+3) R.1/\R6 Z' V w' from(by have:=aM.write hk U J Y s;rw[<-hR]at this;exact this))
 have HS:=C5Z h
 clear hd hR h hk
 obtain⟨R1,R2,R3⟩:=R
 simp only at HC⊢
 go_enter Tryz.func14,Tryz.ntmps14
 go_wp2_with (first
  |(refine C4 (t:=38) rfl _ rfl rfl ?_;intro z3 w1 hz X I;have aC:=C5Z X;have aN:=C5Z (HS.out.more I z3 hz X.lt);have aB:=C5Z I;clear hz X I)
  |(refine B9 rfl rfl A2J ?_;intro z4 w2 hz X I;have aD:=C5Z X;have aA:=C5Z (aC.out.over I);have aO:=C5Z (aN.out.more I z4 hz X.lt);have aF:=C5Z (aB.out.trans I);have aR:=C5Z (Nat.le_trans aB.out.size hz);have c0:w2.cell? ⟨z3,0,none⟩=some (.int .i64 (3:Int)):=(L5 aA.out 0);have c1:w2.cell? ⟨z3,1,none⟩=some (.int .i64 Y):=(L5 aA.out 1);have c6:w2.cell? ⟨z3,6,none⟩=some (.string s):=(L5 aA.out 6);have c7:w2.cell? ⟨z3,7,none⟩=some (.string t):=(L5 aA.out 7);have aE:=C5Z (A0V aA.out);have aL:=C5Z (A0W aA.out);clear hz X I aC)
  |(refine wpList_load_mid rfl 35 (.tmp 55) rfl z3 2 rfl [.int .i64 U,.int .i64 J] _ aE.out Tryz.underlying35 rfl (by rw[B0];rfl) ?_)
  |(go_at_call 35;refine(HC.out _ _ aO.out).mono ?_;rintro e w3 ⟨rfl,hs,hk⟩;have aP:=C5Z hs;have aJ:=C5Z hk;have aH:=C5Z (aD.out.keep (hk z4 (.inr rfl)));clear hs hk c0 c1 c6 c7 aE aL aD)
  |(refine A4B rfl _ _ rfl _ _ rfl rfl ?_)
  |(refine B7 (t:=42) rfl _ _ rfl z4 aH.out rfl rfl X7 rfl rfl (A7F _ _ _ _) ?_;intro w6 X I;have aI:=C5Z X;have aG:=C5Z I;clear X I)
  |fail)
 have aQ:=aP
 have aK:=aJ
 exact bodyPost_ret (A3w rfl _ _ rfl aI.out Tryz.underlying42 rfl (by rw[X7];rfl)) rfl ⟨rfl,A2K HS.out aF.out aR.out aK.out aQ.out aG.out⟩
theorem C33(h:Hs W w Z d o n N k A)(hk:k<=127)(Y U J gi gg:Int)(s t:ByteArray)(kv:Value):Calls Tryz.prog 14 #[.pointer (some ⟨o,0,none⟩),.agg (d11 ⟨4,Y,U,J,gi,gg,s,t,kv⟩)] w λr w'=>
 r= .returned (.agg (dnC (doR A (N-2-n) ⟨4,Y,U,J,gi,gg,s,t,kv⟩).2.1 (doR A (N-2-n) ⟨4,Y,U,J,gi,gg,s,t,kv⟩).2.2.1 (doR A (N-2-n) ⟨4,Y,U,J,gi,gg,s,t,kv⟩).2.2.2))/\Hs W w' Z d o n N (k+3) (doR A (N-2-n) ⟨4,Y,U,J,gi,gg,s,t,kv⟩).1/\R6 Z w w':=by
 obtain⟨R,hR⟩:∃R,R=A48 A U J:=⟨_,rfl⟩
 have hd:doR A (N-2-n) ⟨4,Y,U,J,gi,gg,s,t,kv⟩=(R.1,(0,0),R.2.1,R.2.2):=by
  rw[hR]
  rfl
 rw[hd]
 have HC:=C5Z (λV Z' (aM:Hs W V Z' d o n N k A)=>show Calls Tryz.prog 37 #[.pointer (some ⟨o,0,none⟩),.agg #[.int .i64 U,.int .i64 J]] V λr w'=>r= .returned (.tuple #[.int .u64 (R.2.1:Int),.int .i64 R.2.2])/\Hs W w' Z' d o n N (k+3) R.1/\R6 Z' V w' from(by have:=aM.truncate hk U J;rw[<-hR]at this;exact this))
 have HS:=C5Z h
 clear hd hR h hk
 obtain⟨R1,R2,R3⟩:=R
 simp only at HC⊢
 go_enter Tryz.func14,Tryz.ntmps14
 go_wp2_with (first
  |(refine C4 (t:=38) rfl _ rfl rfl ?_;intro z3 w1 hz X I;have aC:=C5Z X;have aN:=C5Z (HS.out.more I z3 hz X.lt);have aB:=C5Z I;clear hz X I)
  |(refine B9 rfl rfl A2J ?_;intro z4 w2 hz X I;have aD:=C5Z X;have aA:=C5Z (aC.out.over I);have aO:=C5Z (aN.out.more I z4 hz X.lt);have aF:=C5Z (aB.out.trans I);have aR:=C5Z (Nat.le_trans aB.out.size hz);have c0:w2.cell? ⟨z3,0,none⟩=some (.int .i64 (4:Int)):=(L5 aA.out 0);have c1:w2.cell? ⟨z3,1,none⟩=some (.int .i64 Y):=(L5 aA.out 1);have c6:w2.cell? ⟨z3,6,none⟩=some (.string s):=(L5 aA.out 6);have c7:w2.cell? ⟨z3,7,none⟩=some (.string t):=(L5 aA.out 7);have aE:=C5Z (A0V aA.out);have aL:=C5Z (A0W aA.out);clear hz X I aC)
  |(refine wpList_load_mid rfl 35 (.tmp 71) rfl z3 2 rfl [.int .i64 U,.int .i64 J] _ aE.out Tryz.underlying35 rfl (by rw[B0];rfl) ?_)
  |(go_at_call 37;refine(HC.out _ _ aO.out).mono ?_;rintro e w3 ⟨rfl,hs,hk⟩;have aP:=C5Z hs;have aJ:=C5Z hk;have aH:=C5Z (aD.out.keep (hk z4 (.inr rfl)));clear hs hk c0 c1 c6 c7 aE aL aD)
  |(refine A4B rfl _ _ rfl _ _ rfl rfl ?_)
  |(refine B7 (t:=42) rfl _ _ rfl z4 aH.out rfl rfl X7 rfl rfl (A7F _ _ _ _) ?_;intro w6 X I;have aI:=C5Z X;have aG:=C5Z I;clear X I)
  |fail)
 have aQ:=aP
 have aK:=aJ
 exact bodyPost_ret (A3w rfl _ _ rfl aI.out Tryz.underlying42 rfl (by rw[X7];rfl)) rfl ⟨rfl,A2K HS.out aF.out aR.out aK.out aQ.out aG.out⟩
theorem B2y(h:Hs W w Z d o n N k A)(X:k<=127)(x:D11)(hx:0<=x.k/\x.k<5)(hm:x.s.size<=maxLen/\x.t.size<=maxLen):Calls Tryz.prog 14 #[.pointer (some ⟨o,0,none⟩),.agg (d11 x)] w λr w'=>
 r= .returned (.agg (dnC (doR A (N-2-n) x).2.1 (doR A (N-2-n) x).2.2.1 (doR A (N-2-n) x).2.2.2))/\Hs W w' Z d o n N (k+3) (doR A (N-2-n) x).1/\R6 Z w w':=by
 obtain⟨Y,nn,J,I,V,U,s,t,kv⟩:=x
 simp only at hx hm
 have hc:Y=0\/Y=1\/Y=2\/Y=3\/Y=4:=by omega
 rcases hc with rfl|rfl|rfl|rfl|rfl
 ·exact C3z h X nn J I V U s t kv hm
 ·exact C30 h X nn J I V U s t kv hm
 ·exact C31 h X nn J I V U s t kv hm
 ·exact C32 h X nn J I V U s t kv
 ·exact C33 h X nn J I V U s t kv
end
end
section
open Go.RowKit Go.Maps
def dcs(l:List D11):List Value:=l.flatMap (λx=>(d11 x).toList)
theorem B3M(l m:List D11):dcs (l++m)=dcs l++dcs m:=by simp[dcs]
theorem C34(l:List D11)(k j:Nat)(U:j<9)(J:k<l.length):(dcs l)[k * 9+j]? =((d11 l[k]).toList)[j]? :=by
 induction l generalizing k with
 |nil=>simp at J
 |cons d l ih=>
  have I:((d11 d).toList).length=9:=rfl
  cases k with
  |zero=>
   simp only[dcs,List.flatMap_cons,Nat.zero_mul,Nat.zero_add,List.getElem_cons_zero]
   rw[List.getElem?_append_left (by rw[I];exact U)]
  |succ k=>
   have h:=ih k (by simpa using J)
   simp only[dcs,List.flatMap_cons,List.getElem_cons_succ]at h⊢
   rw[List.getElem?_append_right (by rw[I];omega),<-h]
   congr 1
   rw[I];omega
theorem A4C(x:D11):(d11 x).size=9:=rfl
theorem A0X:(Tryz.prog.info? 38).map (·.size)=some 9:=by kernel_rfl
def A9h(l:List D11):Prop:=∀x∈l,x.kv.oneCell'=true
theorem B5u{x:D11}(h:x.kv.oneCell'=true):(d11 x).all (·.oneCell')=true:=by
 rw[Array.all_eq_true_iff_forall_mem]
 intro u I
 simp only[d11,List.mem_toArray,List.mem_cons,List.not_mem_nil,or_false]at I
 rcases I with rfl|rfl|rfl|rfl|rfl|rfl|rfl|rfl|rfl<;>first|rfl|exact h
theorem B0t(l:List D11)(h:A9h l):∀u∈dcs l,u.oneCell'=true:=λu I=>by
 unfold dcs at I
 rw[List.mem_flatMap]at I
 obtain⟨x,J,I⟩:=I
 have:=B5u (h x J)
 rw[Array.all_eq_true_iff_forall_mem]at this
 exact this u (by simpa using I)
structure DsR (w:World) (v:Value) (l:List D11):Prop where
 rd:Rd w 9 v l.length (dcs l)
 sz:∀x∈l,x.s.size<=maxLen/\x.t.size<=maxLen
 one:A9h l
section
variable {w w':World} {v:Value} {l:List D11}
theorem DsR.step{F:Nat->Prop}(h:DsR w v l)(I:B1 B5 w F w'):DsR w' v l:=⟨h.rd.far (λ_ _ _ J=>I.block _ J (λx=>x)) I.size,h.sz,h.one⟩
theorem DsR.form(h:DsR w v l):∃A c,v= .slice A l.length c/\l.length<=c/\c<=maxLen:=h.rd.form
theorem DsR.range{A:Option Addr}{n c k:Nat}{x:D11}(h:DsR w (.slice A n c) l)(Y:n=l.length)(X:l[k]? =some x):k<n/\∃b o,A=some ⟨b,o,none⟩/\w.rangeAt b (o+k * 9) (d11 x).toList:=by
 subst Y
 obtain⟨I,hx⟩:=List.getElem?_eq_some_iff.1 X
 obtain⟨b,o,rfl,_,U⟩:=h.rd.cells (by omega) (by decide)
 refine⟨I,b,o,rfl,λj u J=>?_⟩
 have V:j<9:=(List.getElem?_eq_some_iff.1 J).1
 have:=U (k * 9+j) u (by rw[C34 l k j V I,hx];exact J)
 rw[<-Nat.add_assoc]at this
 exact this
end
structure DsO (W:World) (l:List D11) (v:Value) (w:World):Prop where
 ex:∃F,Sl w F 38 9 v l.length (dcs l)/\B1 B5 W F w
section
variable {W w w':World} {l:List D11} {v:Value}
theorem DsO.adv(h:DsO W l v w):B1 B5 W B5 w:=by
 obtain⟨F,_,I⟩:=h.ex
 exact I.nul
theorem DsO.step{F':Nat->Prop}(h:DsO W l v w)(I:B1 B5 w F' w'):DsO W l v w':=by
 obtain⟨F,J,U⟩:=h.ex
 exact⟨⟨F,J.far I (λ_ h _=>h),U.over I⟩⟩
theorem DsO.form(h:DsO W l v w):∃A c,v= .slice A l.length c:=by
 obtain⟨F,I,_⟩:=h.ex
 obtain⟨A,c,e,_⟩:=I.form0
 exact⟨A,c,e⟩
theorem DsO.rd(h:DsO W l v w):Rd w 9 v l.length (dcs l):=by
 obtain⟨F,I,_⟩:=h.ex
 exact I.rd
theorem DsO.more{m:List D11}(h:DsO W l v w):w.ownsRow 0 38 9 v l.length (dcs l)/\∀(J:World) I U,B1 B5 w B5 J->U.ownsRow 0 38 9 I (l.length+m.length) (dcs l++dcs m)->J.grownBy U v.ownBlock->(I.ownBlock=v.ownBlock\/I.ownBlock=some J.heap.size)->DsO W (l++m) I U:=by
 obtain⟨F,X,h2⟩:=h.ex
 refine⟨X.own,λJ I U V aC hg aB=>?_⟩
 have aA:=X.far V (λ_ h _=>h)
 obtain⟨Y,g2⟩:=A10 aA aC hg aB (Nat.le_refl _)
 exact⟨⟨_,by rw[List.length_append,B3M];exact Y,(h2.over V).trans g2⟩⟩
end
theorem A7G{w:World}{ty:TypeId}{v aB:Value}{n m:Nat}{U I:List Value}(V:w.ownsRow 0 38 9 v n U)(hr:Rd w 9 aB m I)(h1:∀u∈I,u.oneCell'=true)(hn:n+m<=1000000):
 ∃J w',(Builtin.append_ #[22,22] ty #[v,aB]).run Tryz.prog w= .ok J w'/\w'.ownsRow 0 38 9 J (n+m) (U++I)/\w.grownBy w' v.ownBlock/\(J.ownBlock=v.ownBlock\/J.ownBlock=some w.heap.size):=by
 obtain⟨i0,hi,aE,aF,aG⟩:=info_parts A7E
 obtain⟨A,c,rfl,aI,_,aA,hA,hc⟩:=hr
 rcases A with _|X
 ·obtain rfl:c=0:=hA rfl
  obtain rfl:m=0:=by omega
  obtain rfl:I=[]:=List.eq_nil_of_length_eq_zero (by simpa using aA)
  exact⟨v,w,run_append_owned_none (P:=Tryz.prog) w 0 22 ty 38 i0 9 Tryz.underlying22 hi v n U V,by simpa using V,World.grownBy.refl _ _,.inl rfl⟩
 ·have aC:∀j u,I[j]? =some u->w.cell? (X.add j)=some u:=by
   intro j u Y
   have hj:j<I.length:=(List.getElem?_eq_some_iff.1 Y).1
   obtain⟨aH,e,_,h⟩:=hc (by omega)
   have e:=Option.some.inj e
   subst e
   exact h j u Y
  obtain⟨J,w',aD,h2,h3,_,h5⟩:=run_append_own_at (P:=Tryz.prog) w 0 22 ty 38 i0 _ 9 104 Tryz.underlying22 hi aE aF aG rfl (by decide) v n U V X m c I aA aC h1 (by unfold maxLen;omega) (by omega) (Nat.zero_le _)
  exact⟨J,w',aD,h2,h3,h5⟩
section
variable {w:World} {ops:Array Oper} {rest:List Oper} {o:Oper} {a:Act} {Q:Exit->Act->World->Prop}
theorem Z9(aA:o.guard=none)(s x:Operand)
 (ho:o.op= .call { callee:=.builtin .append,args:= #[s,x],argTypes:= #[22,22] })
 {v U:Value} {n m:Nat} {V J:List Value} (hs:a.eval s=v) (hx:a.eval x=U) (aB:w.ownsRow 0 38 9 v n V) (hr:Rd w 9 U m J) (X:∀u∈J,u.oneCell'=true) (hn:n+m<=1000000)
 (h:∀I w',w'.ownsRow 0 38 9 I (n+m) (V++J)->w.grownBy w' v.ownBlock->(I.ownBlock=v.ownBlock\/I.ownBlock=some w.heap.size)->wpList Tryz.prog ops Q rest (a.put o.dst I) w'):wpList Tryz.prog ops Q (o::rest) a w:=by
 refine wpList_plain aA λK hK=>?_
 obtain⟨I,w',aC,Y,h3,h4⟩:=A7G (ty:=o.type) aB hr X hn
 unfold Oper.wp execOp
 simp only[ho,resolve,invoke,builtin,Sem.run_bind,Sem.run_pure,Result.andThen_ok,List.map_toArray,List.map_cons,List.map_nil,hs,hx,aC]
 exact hK _ _ (h I w' Y h3 h4)
theorem C35(w:World)(x:D11):DsO w [x] (.slice (some ⟨w.heap.size,0,none⟩) 1 1) (w.alloc (.cells (d11 x) 38)):=by
 have J:C3 (w.alloc (.cells (d11 x) 38)) w.heap.size 38 (d11 x):=C3.new _ _ _
 refine⟨L6 w.heap.size,⟨⟨by simp[dcs,d11],.inr ⟨w.heap.size,1,_,rfl,Nat.zero_le _,J,Nat.le_refl _,by decide,by simp[d11],by simp[dcs,d11]⟩⟩,λk I=>?_,λk I=>?_⟩,?_⟩
 ·have:w.heap.size=k:=by simpa[Value.ownBlock]using I
  exact this.symm
 ·unfold L6 at I
  rw[I]
  exact J.lt
 ·have:=(B1.refl B5 w).alloc (.cells (d11 x) 38)
  exact⟨this.os,this.tape,this.output,this.size,this.block,λk I=>.inr (by unfold L6 at I;omega)⟩
theorem A7H(U:o.guard=none)(y:Operand)(X:o.op= .buildSlice 22 1 #[(0,y)])(x:D11)(Y:a.eval y= .agg (d11 x))
 (h:∀z w',DsO w [x] (.slice (some ⟨z,0,none⟩) 1 1) w'->B1 B5 w B5 w'->wpList Tryz.prog ops Q rest (a.put o.dst (.slice (some ⟨z,0,none⟩) 1 1)) w'):wpList Tryz.prog ops Q (o::rest) a w:=by
 obtain⟨ie,V,hz,I,_⟩:=info_parts A7E
 refine wpList_buildSlice U 22 38 1 _ X (d11 x) ie _ Tryz.underlying22 V hz (by rw[I];decide) (by rw[I];decide) ?_ (h _ _ (C35 w x) ((B1.refl _ _).alloc _))
 rw[I]
 have J:=Great.fill_whole (s:=9) (by decide) [Value.agg (d11 x)] ((Array.range (1 * 9)).map ((Value.agg #[.int .i64 0,.int .i64 0,.int .i64 0,.int .i64 0,.int .i64 0,.int .i64 0,.string ⟨#[]⟩,.string ⟨#[]⟩,.slice none 0 0]).cells[·%(Value.agg #[.int .i64 0,.int .i64 0,.int .i64 0,.int .i64 0,.int .i64 0,.int .i64 0,.string ⟨#[]⟩,.string ⟨#[]⟩,.slice none 0 0]).cells.size]!)) (λv hv=>by
  rw[List.mem_singleton]at hv
  subst hv
  rfl) (by simp)
 simpa[Y,Value.cells,d11]using J
end
def A3V(n:Nat)(s:ByteArray):ByteArray:=if n<s.size then s.extract 0 n else s
theorem A5v(n:Nat)(s:ByteArray):(A3V n s).size<=n:=by
 unfold A3V
 split
 ·simp only[ByteArray.size_extract];omega
 ·omega
def A5L(x:D11):D11:={ x with s:=A3V 70 x.s,t:=A3V 20 x.t }
def T9(n:Nat)(l:List D11):List D11:=(l.take n).map A5L
theorem A1Y(n:Nat)(l:List D11):(T9 n l).length=min n l.length:=by simp[T9]
theorem B6Z{n:Nat}{l:List D11}(h:A9h l):A9h (T9 n l):=λx I=>by
 obtain⟨y,J,rfl⟩:=List.mem_map.1 I
 exact h y (List.mem_of_mem_take J)
theorem B9F(n:Nat)(l:List D11):∀x∈T9 n l,x.s.size<=maxLen/\x.t.size<=maxLen:=λx I=>by
 obtain⟨y,V,rfl⟩:=List.mem_map.1 I
 have J:=A5v 70 y.s
 have U:=A5v 20 y.t
 exact⟨by show(A3V 70 y.s).size<=maxLen;unfold maxLen;omega,by show(A3V 20 y.t).size<=maxLen;unfold maxLen;omega⟩
theorem DsO.dsr{W w:World}{l:List D11}{n:Nat}{v:Value}(h:DsO W (T9 n l) v w)(I:A9h l):DsR w v (T9 n l):=⟨h.rd,B9F n l,B6Z I⟩
def FwD(w:World)(l:List D11)(n:Nat)(t5 t6:Value)(wr:World):Prop:=∃j:Nat,t6= .int .i64 (j:Int)/\j<=l.length/\j<=n/\DsO w (T9 j l) t5 wr
theorem A9j(v:Value)(l:List D11)(n:Nat)(hn:n<=100)(w:World)(h:DsR w v l):Calls Tryz.prog 9 #[v,.int .i64 (n:Int)] w λx w'=>∃v',x= .returned v'/\DsO w (T9 n l) v' w':=by
 obtain⟨A,c,rfl,bS,aX⟩:=h.form
 obtain⟨N,hN⟩:∃N,N=l.length:=⟨_,rfl⟩
 have bT:(N:Int)<=9223372036854775807:=by unfold maxLen at aX;omega
 rw[<-hN]at h⊢
 have bX:(n:Int)<=100:=by omega
 have HR:=C5Z h
 have U:=C5Z hN
 have bJ:=C5Z hn
 clear h hN bS aX hn
 go_enter Tryz.func9,Tryz.ntmps9
 go_wp2_with fail
 go_loopw [5,6] (FwD w l n) (λ_ t _=>N-(intOf t).toNat)
 case atStart=>exact⟨0,rfl,Nat.zero_le _,Nat.zero_le _,⟨⟨B5,Sl.nil _ _ _,B1.refl _ _⟩⟩⟩
 case round=>
  obtain⟨j,rfl,hj,aU,hE⟩:=hrel
  rw[<-U.out]at hj
  have aV:(T9 j l).length=j:=by rw[A1Y,<-U.out];omega
  obtain⟨A5,c5,rfl⟩:=hE.form
  rw[aV]at hE⊢
  have HE:=C5Z hE
  have HL:=C5Z aV
  clear hE aV
  have bQ:(j<N/\j<n)\/((j:Int)<N/\(n:Int)<=j/\j=n)\/((N:Int)<=j/\j=N):=by omega
  rcases bQ with⟨aJ,aY⟩|⟨aJ,bR,aT⟩|⟨bR,aT⟩
  ·have aI:j<l.length:=by rw[<-U.out];exact aJ
   obtain⟨x,hx⟩:∃x,x=l[j]:=⟨_,rfl⟩
   have bA:l[j]? =some x:=by rw[hx];exact List.getElem?_eq_getElem aI
   obtain⟨_,b,o,hA,aZ⟩:=(HR.out.step HE.out.adv).range U.out bA
   subst hA
   have aK:x∈l:=by rw[hx];exact List.getElem_mem aI
   have aW:=HR.out.sz x aK
   have aO:=C5Z (show A9h [A5L x]fromλy hy=>by rw[List.mem_singleton.1 hy];exact HR.out.one x aK)
   have bK:=C5Z (show x.kv.oneCell'=true from HR.out.one x aK)
   have HF:=C5Z (show T9 (j+1) l=T9 j l++[A5L x]by unfold T9;rw[List.take_succ_eq_append_getElem aI,List.map_append,hx];rfl)
   have bM:=C5Z aZ
   have aP:=C5Z (λV=>show Calls Tryz.prog 30 #[.string x.s,.int .i64 70] V λe w'=>e= .returned (.string (A3V 70 x.s))/\V=w' from A5f x.s 70 V (by decide) aW.1)
   have aQ:=C5Z (λV=>show Calls Tryz.prog 30 #[.string x.t,.int .i64 20] V λe w'=>e= .returned (.string (A3V 20 x.t))/\V=w' from A5f x.t 20 V (by decide) aW.2)
   have aB:=C5Z (λV (a:B1 B5 wr B5 V)=>(HE.out.step a).more (m:=[A5L x]))
   rw[HL.out]at aB
   have aC:=C5Z aJ
   have aM:=C5Z aY
   have aN:=C5Z (show j+1<=1000000 by have:=bJ.out;omega)
   have bV:(j:Int)<(N:Int):=by omega
   have bU:(j:Int)<(n:Int):=by omega
   clear hx bA aI aK aZ aW aJ aY hj aU
   go_upto_region 6 with(first
    |(refine B9 rfl rfl A7E ?_;intro I w9 hz hb J;have aS:=C5Z hz;have bI:=C5Z hb;have bH:=C5Z J;clear hz hb J)
    |(refine B7 (t:=38) rfl _ _ rfl I bI.out rfl rfl A0X (A4C _) rfl (B5u bK.out) ?_;intro aA hb J;have bP:=C5Z hb;have bG:=C5Z (bH.out.fresh aS.out J);clear hb J)
    |(refine wpList_load_mid rfl 38 (.tmp 21) rfl b _ rfl ((d11 x).toList) _ bM.out Tryz.underlying38 rfl (by rw[A0X];rfl) ?_)
    |fail)
   have aF:=C5Z (show C3 aA.drew I 38 (d11 x)from bP.out)
   have c6:aA.cell? ⟨I,6,none⟩=some (.string x.s):=aF.out.cell 6
   have f6:aA.frozen? ⟨I,6,none⟩=false:=aF.out.frozen 6
   have c7:aA.cell? ⟨I,7,none⟩=some (.string x.t):=aF.out.cell 7
   have bO:=C5Z (show C3 (aA.drew.setCell ⟨I,6,none⟩ (.string (A3V 70 x.s))) I 38 _ from aF.out.set_ 6 _)
   have f7:aA.frozen? ⟨I,7,none⟩=false:=aF.out.frozen 7
   have aR:=C5Z (show C3 ((aA.drew.setCell ⟨I,6,none⟩ (.string (A3V 70 x.s))).setCell ⟨I,7,none⟩ (.string (A3V 20 x.t))) I 38 (d11 (A5L x))from bO.out.set_ 7 _)
   have aL:=C5Z (show B1 B5 wr B5 ((aA.drew.setCell ⟨I,6,none⟩ (.string (A3V 70 x.s))).setCell ⟨I,7,none⟩ (.string (A3V 20 x.t)))from(bG.out.drew.setCell (.inr aS.out) _).setCell (.inr aS.out) _)
   refine D8 (S:=(λ_=>True)) (by first|exact True.intro) (λhH=>?_)
   refine C6a 0 rfl ?_
   refine C6a 3 rfl ?_
   refine C6f 1 4 rfl rfl (λK hK=>?_) (λK hK=>?_)
   ·go_simp
    refine C6c hK (by first|exact True.intro) ?_
    clear hK K hH
    intro hH
    try simp only[Act.put,sA,sB,sC]
    refine C6f 2 4 rfl rfl (λK hK=>?_) (λK hK=>?_)
    ·go_simp
     refine(aP.out _).mono ?_
     rintro r bB ⟨rfl,rfl⟩
     go_wp2_with fail
     refine C6c hK (by first|exact True.intro) ?_
     clear hK K hH
     intro hH
     try simp only[Act.put,sA,sB,sC]
     refine C6b 4 rfl (λK hK=>?_)
     go_simp
     refine C6c hK (by first|exact True.intro) ?_
     clear hK K hH
     intro hH
     try simp only[Act.put,sA,sB,sC]
     refine C6a 6 rfl ?_
     refine C6b 5 rfl (λK hK=>?_)
     go_simp
     refine(aQ.out _).mono ?_
     rintro r bC ⟨rfl,rfl⟩
     go_wp2_with fail
     refine C6c hK (by first|exact True.intro) ?_
     clear hK K hH
     intro hH
     try simp only[Act.put,sA,sB,sC]
     refine C6b 7 rfl (λK hK=>?_)
     go_simp
     refine C6c hK (by first|exact True.intro) ?_
     clear hK K hH
     intro hH
     try simp only[Act.put]
     refine C6a 8 rfl ?_
     refine C6b 9 rfl (λK hK=>?_)
     go_simp
     refine C6c hK (by first|exact True.intro) ?_
     clear hK K hH
     intro hH
     try simp only[Act.put]
     refine wpAnyH_done (by kernel_rfl) ?_ _
     go_wp2_with (first
      |(refine B6 (t:=38) rfl _ rfl I aR.out rfl Tryz.underlying38 rfl A0X (A4C _) ?_)
      |(refine A7H rfl _ rfl (A5L x) rfl ?_;intro bF bD hf J;have aD:=C5Z hf;have X:=C5Z (aL.out.trans J);clear hf J)
      |(refine Z9 rfl _ _ rfl rfl rfl (aB.out _ X.out).1 aD.out.rd (B0t _ aO.out) aN.out ?_;intro aG aH Y h2 h3;have aE:=C5Z ((aB.out _ X.out).2 _ aG aH (B1.refl _ _) Y h2 h3);clear Y h2 h3)
      |fail)
     exact⟨⟨j+1,by go_num,by rw[<-U.out];exact aC.out,aM.out,by rw[HF.out];exact aE.out⟩,by have:=aC.out;simp[intOf]<;>omega⟩
    ·go_simp
     refine C6c hK (by first|exact True.intro) ?_
     clear hK K hH
     intro hH
     try simp only[Act.put,sA,sB,sC]
     refine C6b 2 rfl (λK hK=>?_)
     go_simp
     refine(aP.out _).mono ?_
     rintro r bB ⟨rfl,rfl⟩
     go_wp2_with fail
     refine C6c hK (by first|exact True.intro) ?_
     clear hK K hH
     intro hH
     try simp only[Act.put,sA,sB,sC]
     refine C6a 6 rfl ?_
     refine C6b 5 rfl (λK hK=>?_)
     go_simp
     refine(aQ.out _).mono ?_
     rintro r bC ⟨rfl,rfl⟩
     go_wp2_with fail
     refine C6c hK (by first|exact True.intro) ?_
     clear hK K hH
     intro hH
     try simp only[Act.put,sA,sB,sC]
     refine C6b 7 rfl (λK hK=>?_)
     go_simp
     refine C6c hK (by first|exact True.intro) ?_
     clear hK K hH
     intro hH
     try simp only[Act.put]
     refine C6a 8 rfl ?_
     refine C6b 9 rfl (λK hK=>?_)
     go_simp
     refine C6c hK (by first|exact True.intro) ?_
     clear hK K hH
     intro hH
     try simp only[Act.put]
     refine wpAnyH_done (by kernel_rfl) ?_ _
     go_wp2_with (first
      |(refine B6 (t:=38) rfl _ rfl I aR.out rfl Tryz.underlying38 rfl A0X (A4C _) ?_)
      |(refine A7H rfl _ rfl (A5L x) rfl ?_;intro bF bD hf J;have aD:=C5Z hf;have X:=C5Z (aL.out.trans J);clear hf J)
      |(refine Z9 rfl _ _ rfl rfl rfl (aB.out _ X.out).1 aD.out.rd (B0t _ aO.out) aN.out ?_;intro aG aH Y h2 h3;have aE:=C5Z ((aB.out _ X.out).2 _ aG aH (B1.refl _ _) Y h2 h3);clear Y h2 h3)
      |fail)
     exact⟨⟨j+1,by go_num,by rw[<-U.out];exact aC.out,aM.out,by rw[HF.out];exact aE.out⟩,by have:=aC.out;simp[intOf]<;>omega⟩
   ·go_simp
    refine C6c hK (by first|exact True.intro) ?_
    clear hK K hH
    intro hH
    try simp only[Act.put,sA,sB,sC]
    refine C6b 1 rfl (λK hK=>?_)
    go_simp
    refine C6c hK (by first|exact True.intro) ?_
    clear hK K hH
    intro hH
    try simp only[Act.put,sA,sB,sC]
    refine C6b 2 rfl (λK hK=>?_)
    go_simp
    refine(aP.out _).mono ?_
    rintro r bB ⟨rfl,rfl⟩
    go_wp2_with fail
    refine C6c hK (by first|exact True.intro) ?_
    clear hK K hH
    intro hH
    try simp only[Act.put,sA,sB,sC]
    refine C6a 6 rfl ?_
    refine C6b 5 rfl (λK hK=>?_)
    go_simp
    refine(aQ.out _).mono ?_
    rintro r bC ⟨rfl,rfl⟩
    go_wp2_with fail
    refine C6c hK (by first|exact True.intro) ?_
    clear hK K hH
    intro hH
    try simp only[Act.put,sA,sB,sC]
    refine C6b 7 rfl (λK hK=>?_)
    go_simp
    refine C6c hK (by first|exact True.intro) ?_
    clear hK K hH
    intro hH
    try simp only[Act.put]
    refine C6a 8 rfl ?_
    refine C6b 9 rfl (λK hK=>?_)
    go_simp
    refine C6c hK (by first|exact True.intro) ?_
    clear hK K hH
    intro hH
    try simp only[Act.put]
    refine wpAnyH_done (by kernel_rfl) ?_ _
    go_wp2_with (first
     |(refine B6 (t:=38) rfl _ rfl I aR.out rfl Tryz.underlying38 rfl A0X (A4C _) ?_)
     |(refine A7H rfl _ rfl (A5L x) rfl ?_;intro bF bD hf J;have aD:=C5Z hf;have X:=C5Z (aL.out.trans J);clear hf J)
     |(refine Z9 rfl _ _ rfl rfl rfl (aB.out _ X.out).1 aD.out.rd (B0t _ aO.out) aN.out ?_;intro aG aH Y h2 h3;have aE:=C5Z ((aB.out _ X.out).2 _ aG aH (B1.refl _ _) Y h2 h3);clear Y h2 h3)
     |fail)
    exact⟨⟨j+1,by go_num,by rw[<-U.out];exact aC.out,aM.out,by rw[HF.out];exact aE.out⟩,by have:=aC.out;simp[intOf]<;>omega⟩
  ·subst aT
   clear hj aU
   go_wp2_with fail
   go_ret
   exact⟨_,rfl,HE.out⟩
  ·have HF:=C5Z (show T9 n l=T9 j l by unfold T9;rw[List.take_of_length_le (by rw[<-U.out];omega),List.take_of_length_le (by rw[<-U.out];omega)])
   subst aT
   clear hj aU
   go_wp2_with fail
   go_ret
   exact⟨_,rfl,by rw[HF.out];exact HE.out⟩
end
end Go.Proofs.YtbefmjiclpobjaaGreat
