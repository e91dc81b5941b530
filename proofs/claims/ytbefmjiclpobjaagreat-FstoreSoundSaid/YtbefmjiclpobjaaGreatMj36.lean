import Derived.Test.YtbefmjiclpobjaaGreatMj35
import Derived.Test.YtbefmjiclpobjaaGreatMj15
import Derived.Deep.Slices
import Derived.Deep.Fields
import Derived.ChangeArms
import Derived.Test.YtbefmjiclpobjaaGreatMj06
import Derived.Test.YtbefmjiclpobjaaGreatMj00
import Derived.Test.YtbefmjiclpobjaaGreatMj25
namespace Go.Proofs.YtbefmjiclpobjaaGreat
set_option maxHeartbeats 6400000
set_option maxRecDepth 3000
section
open Go.RowKit Go.Maps
structure D11 where
 k:Int
 n:Int
 fi:Int
 fg:Int
 gi:Int
 gg:Int
 s:ByteArray
 t:ByteArray
 kv:Value
def d11(x:D11):Array Value:= #[.int .i64 x.k,.int .i64 x.n,.int .i64 x.fi,.int .i64 x.fg,.int .i64 x.gi,.int .i64 x.gg,.string x.s,.string x.t,x.kv]
def dnC(f:Int×Int)(n:Nat)(e:Int):Array Value:= #[.int .i64 f.1,.int .i64 f.2,.int .u64 (n:Int),.int .i64 e]
theorem A7K:(Tryz.prog.info? 38).map (λi=>(i.zero,i.size,i.bytes))=some (some (.agg #[.int .i64 0,.int .i64 0,.int .i64 0,.int .i64 0,.int .i64 0,.int .i64 0,.string ⟨#[]⟩,.string ⟨#[]⟩,.slice none 0 0]),9,104):=by kernel_rfl
theorem A2C:(Tryz.prog.info? 42).map (λi=>(i.zero,i.size,i.bytes))=some (some (.agg #[.int .i64 0,.int .i64 0,.int .u64 0,.int .i64 0]),4,32):=by kernel_rfl
theorem V6:(Tryz.prog.info? 42).map (·.size)=some 4:=by kernel_rfl
theorem A7L(a b c e:Int):(#[Value.int .i64 a,.int .i64 b,.int .u64 c,.int .i64 e]).all (·.oneCell')=true:=by simp[Value.oneCell']
theorem B24(a b e:Int):Tryz.prog.built 42 [(0,.agg #[.int .i64 a,.int .i64 b]),(2,.int .i64 e)]=some #[.int .i64 a,.int .i64 b,.int .u64 0,.int .i64 e]:=by kernel_rfl
theorem B25(e:Int):Tryz.prog.built 42 [(2,.int .i64 e)]=some #[.int .i64 0,.int .i64 0,.int .u64 0,.int .i64 e]:=by kernel_rfl
theorem B26(c e:Int):Tryz.prog.built 42 [(1,.int .u64 c),(2,.int .i64 e)]=some #[.int .i64 0,.int .i64 0,.int .u64 c,.int .i64 e]:=by kernel_rfl
section
variable {ops:Array Oper} {rest:List Oper} {o:Oper} {a:Act} {w:World} {Q:Exit->Act->World->Prop}
theorem B0x(V:o.guard=none)(x y:Operand)(X:o.op= .build 42 #[(0,x),(2,y)])(I J e:Int)(Y:a.eval x= .agg #[.int .i64 I,.int .i64 J])(hy:a.eval y= .int .i64 e)
 (h:wpList Tryz.prog ops Q rest (a.put o.dst (.agg #[.int .i64 I,.int .i64 J,.int .u64 0,.int .i64 e])) w):wpList Tryz.prog ops Q (o::rest) a w:=by
 have U:((#[(0,x),(2,y)]:Array (Nat×Operand)).map λ(i,x)=>(i,a.eval x)).toList=[(0,.agg #[.int .i64 I,.int .i64 J]),(2,.int .i64 e)]:=by simp[Y,hy]
 refine wpList_build V 42 _ X (by rw[U,B24];rfl) ?_
 rw[U,B24]
 exact h
theorem A46(J:o.guard=none)(x:Operand)(U:o.op= .build 42 #[(2,x)])(e:Int)(V:a.eval x= .int .i64 e)
 (h:wpList Tryz.prog ops Q rest (a.put o.dst (.agg #[.int .i64 0,.int .i64 0,.int .u64 0,.int .i64 e])) w):wpList Tryz.prog ops Q (o::rest) a w:=by
 have I:((#[(2,x)]:Array (Nat×Operand)).map λ(i,x)=>(i,a.eval x)).toList=[(2,.int .i64 e)]:=by simp[V]
 refine wpList_build J 42 _ U (by rw[I,B25];rfl) ?_
 rw[I,B25]
 exact h
theorem A47(J:o.guard=none)(x y:Operand)(U:o.op= .build 42 #[(1,x),(2,y)])(c e:Int)(V:a.eval x= .int .u64 c)(X:a.eval y= .int .i64 e)
 (h:wpList Tryz.prog ops Q rest (a.put o.dst (.agg #[.int .i64 0,.int .i64 0,.int .u64 c,.int .i64 e])) w):wpList Tryz.prog ops Q (o::rest) a w:=by
 have I:((#[(1,x),(2,y)]:Array (Nat×Operand)).map λ(i,x)=>(i,a.eval x)).toList=[(1,.int .u64 c),(2,.int .i64 e)]:=by simp[V,X]
 refine wpList_build J 42 _ U (by rw[I,B26];rfl) ?_
 rw[I,B26]
 exact h
end
theorem K9{w:World}{z:Nat}{t:TypeId}{C:Array Value}(h:C3 w z t C)(j:Nat):w.cell? ⟨z,j,none⟩=C[j]? :=h.cell j
theorem A0L{w:World}{z:Nat}{t:TypeId}{x:D11}(h:C3 w z t (d11 x)):w.rangeAt z 2 [.int .i64 x.fi,.int .i64 x.fg]:=λj u I=>by
 have J:j<2:=(List.getElem?_eq_some_iff.1 I).1
 match j,J with
 |0,_=>simp at I;subst I;exact h.cell 2
 |1,_=>simp at I;subst I;exact h.cell 3
theorem A0M{w:World}{z:Nat}{t:TypeId}{x:D11}(h:C3 w z t (d11 x)):w.rangeAt z 4 [.int .i64 x.gi,.int .i64 x.gg]:=λj u I=>by
 have J:j<2:=(List.getElem?_eq_some_iff.1 I).1
 match j,J with
 |0,_=>simp at I;subst I;exact h.cell 4
 |1,_=>simp at I;subst I;exact h.cell 5
noncomputable def doR(A:As)(M:Nat)(x:D11):As×(Int×Int)×Nat×Int:=
 if x.k=0 then((A1j A M x.fi x.fg x.s x.n).1,(A1j A M x.fi x.fg x.s x.n).2.1,0,(A1j A M x.fi x.fg x.s x.n).2.2)
 else if x.k=1 then((A7D A x.fi x.fg x.s).1,(0,0),0,(A7D A x.fi x.fg x.s).2)
 else if x.k=2 then((A7J A M x.fi x.fg x.s x.gi x.gg x.t).1,(0,0),0,(A7J A M x.fi x.fg x.s x.gi x.gg x.t).2)
 else if x.k=3 then((A3h A M x.fi x.fg x.n x.s).1,(0,0),(A3h A M x.fi x.fg x.n x.s).2.1,(A3h A M x.fi x.fg x.n x.s).2.2)
 else((A5V A x.fi x.fg).1,(0,0),(A5V A x.fi x.fg).2.1,(A5V A x.fi x.fg).2.2)
section
variable {W w w' w1:World} {Z Z':Nat->Prop} {d o n N k:Nat} {A A':As}
theorem R7.trans(h:R7 Z w w')(J:R7 Z w' w1):R7 Z w w1:=λz I=>(J z I).trans (h z I)
theorem R7.adv{F':Nat->Prop}(J:∀z,Z z->z<w.heap.size)(I:B0 B5 w F' w'):R7 Z w w':=λz h=>I.block z (J z h) (λx=>x)
theorem Hs.less(h:Hs W w Z' d o n N k A)(U:∀z,Z z->Z' z):Hs W w Z d o n N k A:=by
 obtain⟨E,V,X,h3,Y,h5,J⟩:=h.ex
 exact⟨⟨E,V,X,h3,Y,h5,λj I=>⟨(J j I).1,λy=>(J j I).2 (U j y)⟩⟩,h.adv,λj I=>h.zb j (U j I)⟩
theorem A2D{w2 U V:World}{F':Nat->Prop}{z3 J k':Nat}(h:Hs W w Z d o n N k A)(a2:B0 B5 w B5 w2)(h4:w.heap.size<=J)(hk:R7 (λj=>(Z j\/j=z3)\/j=J) w2 U)(Y:Hs W U (λj=>(Z j\/j=z3)\/j=J) d o n N k' A')(X:B0 (J0 J) U F' V):Hs W V Z d o n N k' A'/\R7 Z w V:=by
 have hw:W.heap.size<=J:=Nat.le_trans h.adv.size h4
 refine⟨(Y.turn (.inr rfl) hw X).less (λz I=>.inl (.inl I)),λz I=>?_⟩
 have aA:=h.zb z I
 exact(X.block z (Y.zb z (.inl (.inl I))) (λy=>by unfold J0 at y;omega)).trans ((hk z (.inl (.inl I))).trans (a2.block z aA (λy=>y)))
theorem C3C(h:Hs W w Z d o n N k A)(hk:k<=127)(Y X U gi gg:Int)(s t:ByteArray)(kv:Value)(hm:s.size<=maxLen/\t.size<=maxLen):Calls Tryz.prog 14 #[.pointer (some ⟨o,0,none⟩),.agg (d11 ⟨0,Y,X,U,gi,gg,s,t,kv⟩)] w λr w'=>
 r= .returned (.agg (dnC (doR A (N-2-n) ⟨0,Y,X,U,gi,gg,s,t,kv⟩).2.1 (doR A (N-2-n) ⟨0,Y,X,U,gi,gg,s,t,kv⟩).2.2.1 (doR A (N-2-n) ⟨0,Y,X,U,gi,gg,s,t,kv⟩).2.2.2))/\Hs W w' Z d o n N (k+3) (doR A (N-2-n) ⟨0,Y,X,U,gi,gg,s,t,kv⟩).1/\R7 Z w w':=by
 obtain⟨R,hR⟩:∃R,R=A1j A (N-2-n) X U s Y:=⟨_,rfl⟩
 have hd:doR A (N-2-n) ⟨0,Y,X,U,gi,gg,s,t,kv⟩=(R.1,R.2.1,0,R.2.2):=by
  rw[hR]
  rfl
 rw[hd]
 have HC:=C6x (λV Z' (aS:Hs W V Z' d o n N k A)=>show Calls Tryz.prog 36 #[.pointer (some ⟨o,0,none⟩),.agg #[.int .i64 X,.int .i64 U],.string s,.int .i64 Y] V λr w'=>r= .returned (.tuple #[.agg #[.int .i64 R.2.1.1,.int .i64 R.2.1.2],.int .i64 R.2.2])/\Hs W w' Z' d o n N (k+3) R.1/\R7 Z' V w' from(by have:=aS.create hk X U s Y hm.1;rw[<-hR]at this;exact this))
 have HS:=C6x h
 clear hd hR h hk hm
 obtain⟨R1,⟨aY,aZ⟩,R3⟩:=R
 simp only at HC⊢
 go_enter Tryz.func14,Tryz.ntmps14
 go_wp2_with (first
  |(refine C5 (t:=38) rfl _ rfl rfl ?_;intro z3 w1 hz J I;have aD:=C6x J;have aT:=C6x (HS.out.more I z3 hz J.lt);have aC:=C6x I;clear hz J I)
  |(refine B9 rfl rfl A2C ?_;intro z4 w2 hz J I;have aE:=C6x J;have aA:=C6x (aD.out.over I);have aU:=C6x (aT.out.more I z4 hz J.lt);have aI:=C6x (aC.out.trans I);have aW:=C6x (Nat.le_trans aC.out.size hz);have c0:w2.cell? ⟨z3,0,none⟩=some (.int .i64 (0:Int)):=(K9 aA.out 0);have c1:w2.cell? ⟨z3,1,none⟩=some (.int .i64 Y):=(K9 aA.out 1);have c6:w2.cell? ⟨z3,6,none⟩=some (.string s):=(K9 aA.out 6);have c7:w2.cell? ⟨z3,7,none⟩=some (.string t):=(K9 aA.out 7);have aG:=C6x (A0L aA.out);have aR:=C6x (A0M aA.out);clear hz J I aD)
  |(refine wpList_load_mid rfl 35 (.tmp 17) rfl z3 2 rfl [.int .i64 X,.int .i64 U] _ aG.out Tryz.underlying35 rfl (by rw[B1];rfl) ?_)
  |(go_at_call 36;refine(HC.out _ _ aU.out).mono ?_;rintro e w3 ⟨rfl,hs,hk⟩;have aH:=C6x hs;have aP:=C6x hk;have aL:=C6x (aE.out.keep (hk z4 (.inr rfl)));clear hs hk c0 c1 c6 c7 aG aR aE)
  |(refine B9 rfl rfl P1 ?_;intro z5 w4 hz J I;have aX:=C6x hz;have aF:=C6x J;have aJ:=C6x I;clear hz J I)
  |(refine B7 rfl _ _ rfl z5 aF.out rfl rfl B1 rfl rfl (X7 _ _) ?_;intro w5 J I;have aN:=C6x J;have aB:=C6x (aJ.out.fresh aX.out I);have aM:=C6x (aL.out.over aB.out);clear J I aF)
  |(refine B6 (t:=35) rfl _ rfl z5 aN.out rfl Tryz.underlying35 rfl B1 rfl ?_)
  |(refine B0x rfl _ _ rfl _ _ _ rfl rfl ?_)
  |(refine B7 (t:=42) rfl _ _ rfl z4 aM.out rfl rfl V6 rfl rfl (A7L _ _ _ _) ?_;intro w6 J I;have aO:=C6x J;have aK:=C6x I;clear J I)
  |fail)
 have aV:=C6x (aH.out.step aB.out)
 have aQ:=C6x (aP.out.trans (R7.adv aH.out.zb aB.out))
 exact bodyPost_ret (A3r rfl _ _ rfl aO.out Tryz.underlying42 rfl (by rw[V6];rfl)) rfl ⟨rfl,A2D HS.out aI.out aW.out aQ.out aV.out aK.out⟩
theorem C3D(h:Hs W w Z d o n N k A)(hk:k<=127)(Y U J gi gg:Int)(s t:ByteArray)(kv:Value)(hm:s.size<=maxLen/\t.size<=maxLen):Calls Tryz.prog 14 #[.pointer (some ⟨o,0,none⟩),.agg (d11 ⟨1,Y,U,J,gi,gg,s,t,kv⟩)] w λr w'=>
 r= .returned (.agg (dnC (doR A (N-2-n) ⟨1,Y,U,J,gi,gg,s,t,kv⟩).2.1 (doR A (N-2-n) ⟨1,Y,U,J,gi,gg,s,t,kv⟩).2.2.1 (doR A (N-2-n) ⟨1,Y,U,J,gi,gg,s,t,kv⟩).2.2.2))/\Hs W w' Z d o n N (k+3) (doR A (N-2-n) ⟨1,Y,U,J,gi,gg,s,t,kv⟩).1/\R7 Z w w':=by
 obtain⟨R,hR⟩:∃R,R=A7D A U J s:=⟨_,rfl⟩
 have hd:doR A (N-2-n) ⟨1,Y,U,J,gi,gg,s,t,kv⟩=(R.1,(0,0),0,R.2):=by
  rw[hR]
  rfl
 rw[hd]
 have HC:=C6x (λV Z' (aM:Hs W V Z' d o n N k A)=>show Calls Tryz.prog 33 #[.pointer (some ⟨o,0,none⟩),.agg #[.int .i64 U,.int .i64 J],.string s] V λr w'=>r= .returned (.int .i64 R.2)/\Hs W w' Z' d o n N (k+3) R.1/\R7 Z' V w' from(by have:=aM.remove hk U J s hm.1;rw[<-hR]at this;exact this))
 have HS:=C6x h
 clear hd hR h hk hm
 obtain⟨R1,R2⟩:=R
 simp only at HC⊢
 go_enter Tryz.func14,Tryz.ntmps14
 go_wp2_with (first
  |(refine C5 (t:=38) rfl _ rfl rfl ?_;intro z3 w1 hz X I;have aC:=C6x X;have aN:=C6x (HS.out.more I z3 hz X.lt);have aB:=C6x I;clear hz X I)
  |(refine B9 rfl rfl A2C ?_;intro z4 w2 hz X I;have aD:=C6x X;have aA:=C6x (aC.out.over I);have aO:=C6x (aN.out.more I z4 hz X.lt);have aF:=C6x (aB.out.trans I);have aR:=C6x (Nat.le_trans aB.out.size hz);have c0:w2.cell? ⟨z3,0,none⟩=some (.int .i64 (1:Int)):=(K9 aA.out 0);have c1:w2.cell? ⟨z3,1,none⟩=some (.int .i64 Y):=(K9 aA.out 1);have c6:w2.cell? ⟨z3,6,none⟩=some (.string s):=(K9 aA.out 6);have c7:w2.cell? ⟨z3,7,none⟩=some (.string t):=(K9 aA.out 7);have aE:=C6x (A0L aA.out);have aL:=C6x (A0M aA.out);clear hz X I aC)
  |(refine wpList_load_mid rfl 35 (.tmp 32) rfl z3 2 rfl [.int .i64 U,.int .i64 J] _ aE.out Tryz.underlying35 rfl (by rw[B1];rfl) ?_)
  |(go_at_call 33;refine(HC.out _ _ aO.out).mono ?_;rintro e w3 ⟨rfl,hs,hk⟩;have aP:=C6x hs;have aJ:=C6x hk;have aH:=C6x (aD.out.keep (hk z4 (.inr rfl)));clear hs hk c0 c1 c6 c7 aE aL aD)
  |(refine A46 rfl _ rfl _ rfl ?_)
  |(refine B7 (t:=42) rfl _ _ rfl z4 aH.out rfl rfl V6 rfl rfl (A7L _ _ _ _) ?_;intro w6 X I;have aI:=C6x X;have aG:=C6x I;clear X I)
  |fail)
 have aQ:=aP
 have aK:=aJ
 exact bodyPost_ret (A3r rfl _ _ rfl aI.out Tryz.underlying42 rfl (by rw[V6];rfl)) rfl ⟨rfl,A2D HS.out aF.out aR.out aK.out aQ.out aG.out⟩
theorem C3E(h:Hs W w Z d o n N k A)(hk:k<=127)(nn U J Y X:Int)(s t:ByteArray)(kv:Value)(hm:s.size<=maxLen/\t.size<=maxLen):Calls Tryz.prog 14 #[.pointer (some ⟨o,0,none⟩),.agg (d11 ⟨2,nn,U,J,Y,X,s,t,kv⟩)] w λr w'=>
 r= .returned (.agg (dnC (doR A (N-2-n) ⟨2,nn,U,J,Y,X,s,t,kv⟩).2.1 (doR A (N-2-n) ⟨2,nn,U,J,Y,X,s,t,kv⟩).2.2.1 (doR A (N-2-n) ⟨2,nn,U,J,Y,X,s,t,kv⟩).2.2.2))/\Hs W w' Z d o n N (k+3) (doR A (N-2-n) ⟨2,nn,U,J,Y,X,s,t,kv⟩).1/\R7 Z w w':=by
 obtain⟨R,hR⟩:∃R,R=A7J A (N-2-n) U J s Y X t:=⟨_,rfl⟩
 have hd:doR A (N-2-n) ⟨2,nn,U,J,Y,X,s,t,kv⟩=(R.1,(0,0),0,R.2):=by
  rw[hR]
  rfl
 rw[hd]
 have HC:=C6x (λV Z' (aM:Hs W V Z' d o n N k A)=>show Calls Tryz.prog 39 #[.pointer (some ⟨o,0,none⟩),.agg #[.int .i64 U,.int .i64 J],.string s,.agg #[.int .i64 Y,.int .i64 X],.string t] V λr w'=>r= .returned (.int .i64 R.2)/\Hs W w' Z' d o n N (k+3) R.1/\R7 Z' V w' from(by have:=aM.rename hk U J s Y X t hm;rw[<-hR]at this;exact this))
 have HS:=C6x h
 clear hd hR h hk hm
 obtain⟨R1,R2⟩:=R
 simp only at HC⊢
 go_enter Tryz.func14,Tryz.ntmps14
 go_wp2_with (first
  |(refine C5 (t:=38) rfl _ rfl rfl ?_;intro z3 w1 hz hb I;have aC:=C6x hb;have aN:=C6x (HS.out.more I z3 hz hb.lt);have aB:=C6x I;clear hz hb I)
  |(refine B9 rfl rfl A2C ?_;intro z4 w2 hz hb I;have aD:=C6x hb;have aA:=C6x (aC.out.over I);have aO:=C6x (aN.out.more I z4 hz hb.lt);have aG:=C6x (aB.out.trans I);have aR:=C6x (Nat.le_trans aB.out.size hz);have c0:w2.cell? ⟨z3,0,none⟩=some (.int .i64 (2:Int)):=(K9 aA.out 0);have c1:w2.cell? ⟨z3,1,none⟩=some (.int .i64 nn):=(K9 aA.out 1);have c6:w2.cell? ⟨z3,6,none⟩=some (.string s):=(K9 aA.out 6);have c7:w2.cell? ⟨z3,7,none⟩=some (.string t):=(K9 aA.out 7);have aE:=C6x (A0L aA.out);have aF:=C6x (A0M aA.out);clear hz hb I aC)
  |(refine wpList_load_mid rfl 35 (.tmp 41) rfl z3 2 rfl [.int .i64 U,.int .i64 J] _ aE.out Tryz.underlying35 rfl (by rw[B1];rfl) ?_)
  |(refine wpList_load_mid rfl 35 (.tmp 45) rfl z3 4 rfl [.int .i64 Y,.int .i64 X] _ aF.out Tryz.underlying35 rfl (by rw[B1];rfl) ?_)
  |(go_at_call 39;refine(HC.out _ _ aO.out).mono ?_;rintro e w3 ⟨rfl,hs,hk⟩;have aP:=C6x hs;have aK:=C6x hk;have aI:=C6x (aD.out.keep (hk z4 (.inr rfl)));clear hs hk c0 c1 c6 c7 aE aF aD)
  |(refine A46 rfl _ rfl _ rfl ?_)
  |(refine B7 (t:=42) rfl _ _ rfl z4 aI.out rfl rfl V6 rfl rfl (A7L _ _ _ _) ?_;intro w6 hb I;have aJ:=C6x hb;have aH:=C6x I;clear hb I)
  |fail)
 have aQ:=aP
 have aL:=aK
 exact bodyPost_ret (A3r rfl _ _ rfl aJ.out Tryz.underlying42 rfl (by rw[V6];rfl)) rfl ⟨rfl,A2D HS.out aG.out aR.out aL.out aQ.out aH.out⟩
theorem C3F(h:Hs W w Z d o n N k A)(hk:k<=127)(Y U J gi gg:Int)(s t:ByteArray)(kv:Value):Calls Tryz.prog 14 #[.pointer (some ⟨o,0,none⟩),.agg (d11 ⟨3,Y,U,J,gi,gg,s,t,kv⟩)] w λr w'=>
 r= .returned (.agg (dnC (doR A (N-2-n) ⟨3,Y,U,J,gi,gg,s,t,kv⟩).2.1 (doR A (N-2-n) ⟨3,Y,U,J,gi,gg,s,t,kv⟩).2.2.1 (doR A (N-2-n) ⟨3,Y,U,J,gi,gg,s,t,kv⟩).2.2.2))/\Hs W w' Z d o n N (k+3) (doR A (N-2-n) ⟨3,Y,U,J,gi,gg,s,t,kv⟩).1/\R7 Z w w':=by
 obtain⟨R,hR⟩:∃R,R=A3h A (N-2-n) U J Y s:=⟨_,rfl⟩
 have hd:doR A (N-2-n) ⟨3,Y,U,J,gi,gg,s,t,kv⟩=(R.1,(0,0),R.2.1,R.2.2):=by
  rw[hR]
  rfl
 rw[hd]
 have HC:=C6x (λV Z' (aM:Hs W V Z' d o n N k A)=>show Calls Tryz.prog 35 #[.pointer (some ⟨o,0,none⟩),.agg #[.int .i64 U,.int .i64 J],.int .i64 Y,.string s] V λr w'=>r= .returned (.tuple #[.int .u64 (R.2.1:Int),.int .i64 R.2.2])/\Hs W w' Z' d o n N (k+3) R.1/\R7 Z' V w' from(by have:=aM.write hk U J Y s;rw[<-hR]at this;exact this))
 have HS:=C6x h
 clear hd hR h hk
 obtain⟨R1,R2,R3⟩:=R
 simp only at HC⊢
 go_enter Tryz.func14,Tryz.ntmps14
 go_wp2_with (first
  |(refine C5 (t:=38) rfl _ rfl rfl ?_;intro z3 w1 hz X I;have aC:=C6x X;have aN:=C6x (HS.out.more I z3 hz X.lt);have aB:=C6x I;clear hz X I)
  |(refine B9 rfl rfl A2C ?_;intro z4 w2 hz X I;have aD:=C6x X;have aA:=C6x (aC.out.over I);have aO:=C6x (aN.out.more I z4 hz X.lt);have aF:=C6x (aB.out.trans I);have aR:=C6x (Nat.le_trans aB.out.size hz);have c0:w2.cell? ⟨z3,0,none⟩=some (.int .i64 (3:Int)):=(K9 aA.out 0);have c1:w2.cell? ⟨z3,1,none⟩=some (.int .i64 Y):=(K9 aA.out 1);have c6:w2.cell? ⟨z3,6,none⟩=some (.string s):=(K9 aA.out 6);have c7:w2.cell? ⟨z3,7,none⟩=some (.string t):=(K9 aA.out 7);have aE:=C6x (A0L aA.out);have aL:=C6x (A0M aA.out);clear hz X I aC)
  |(refine wpList_load_mid rfl 35 (.tmp 55) rfl z3 2 rfl [.int .i64 U,.int .i64 J] _ aE.out Tryz.underlying35 rfl (by rw[B1];rfl) ?_)
  |(go_at_call 35;refine(HC.out _ _ aO.out).mono ?_;rintro e w3 ⟨rfl,hs,hk⟩;have aP:=C6x hs;have aJ:=C6x hk;have aH:=C6x (aD.out.keep (hk z4 (.inr rfl)));clear hs hk c0 c1 c6 c7 aE aL aD)
  |(refine A47 rfl _ _ rfl _ _ rfl rfl ?_)
  |(refine B7 (t:=42) rfl _ _ rfl z4 aH.out rfl rfl V6 rfl rfl (A7L _ _ _ _) ?_;intro w6 X I;have aI:=C6x X;have aG:=C6x I;clear X I)
  |fail)
 have aQ:=aP
 have aK:=aJ
 exact bodyPost_ret (A3r rfl _ _ rfl aI.out Tryz.underlying42 rfl (by rw[V6];rfl)) rfl ⟨rfl,A2D HS.out aF.out aR.out aK.out aQ.out aG.out⟩
theorem C3G(h:Hs W w Z d o n N k A)(hk:k<=127)(Y U J gi gg:Int)(s t:ByteArray)(kv:Value):Calls Tryz.prog 14 #[.pointer (some ⟨o,0,none⟩),.agg (d11 ⟨4,Y,U,J,gi,gg,s,t,kv⟩)] w λr w'=>
 r= .returned (.agg (dnC (doR A (N-2-n) ⟨4,Y,U,J,gi,gg,s,t,kv⟩).2.1 (doR A (N-2-n) ⟨4,Y,U,J,gi,gg,s,t,kv⟩).2.2.1 (doR A (N-2-n) ⟨4,Y,U,J,gi,gg,s,t,kv⟩).2.2.2))/\Hs W w' Z d o n N (k+3) (doR A (N-2-n) ⟨4,Y,U,J,gi,gg,s,t,kv⟩).1/\R7 Z w w':=by
 obtain⟨R,hR⟩:∃R,R=A5V A U J:=⟨_,rfl⟩
 have hd:doR A (N-2-n) ⟨4,Y,U,J,gi,gg,s,t,kv⟩=(R.1,(0,0),R.2.1,R.2.2):=by
  rw[hR]
  rfl
 rw[hd]
 have HC:=C6x (λV Z' (aM:Hs W V Z' d o n N k A)=>show Calls Tryz.prog 37 #[.pointer (some ⟨o,0,none⟩),.agg #[.int .i64 U,.int .i64 J]] V λr w'=>r= .returned (.tuple #[.int .u64 (R.2.1:Int),.int .i64 R.2.2])/\Hs W w' Z' d o n N (k+3) R.1/\R7 Z' V w' from(by have:=aM.truncate hk U J;rw[<-hR]at this;exact this))
 have HS:=C6x h
 clear hd hR h hk
 obtain⟨R1,R2,R3⟩:=R
 simp only at HC⊢
 go_enter Tryz.func14,Tryz.ntmps14
 go_wp2_with (first
  |(refine C5 (t:=38) rfl _ rfl rfl ?_;intro z3 w1 hz X I;have aC:=C6x X;have aN:=C6x (HS.out.more I z3 hz X.lt);have aB:=C6x I;clear hz X I)
  |(refine B9 rfl rfl A2C ?_;intro z4 w2 hz X I;have aD:=C6x X;have aA:=C6x (aC.out.over I);have aO:=C6x (aN.out.more I z4 hz X.lt);have aF:=C6x (aB.out.trans I);have aR:=C6x (Nat.le_trans aB.out.size hz);have c0:w2.cell? ⟨z3,0,none⟩=some (.int .i64 (4:Int)):=(K9 aA.out 0);have c1:w2.cell? ⟨z3,1,none⟩=some (.int .i64 Y):=(K9 aA.out 1);have c6:w2.cell? ⟨z3,6,none⟩=some (.string s):=(K9 aA.out 6);have c7:w2.cell? ⟨z3,7,none⟩=some (.string t):=(K9 aA.out 7);have aE:=C6x (A0L aA.out);have aL:=C6x (A0M aA.out);clear hz X I aC)
  |(refine wpList_load_mid rfl 35 (.tmp 71) rfl z3 2 rfl [.int .i64 U,.int .i64 J] _ aE.out Tryz.underlying35 rfl (by rw[B1];rfl) ?_)
  |(go_at_call 37;refine(HC.out _ _ aO.out).mono ?_;rintro e w3 ⟨rfl,hs,hk⟩;have aP:=C6x hs;have aJ:=C6x hk;have aH:=C6x (aD.out.keep (hk z4 (.inr rfl)));clear hs hk c0 c1 c6 c7 aE aL aD)
  |(refine A47 rfl _ _ rfl _ _ rfl rfl ?_)
  |(refine B7 (t:=42) rfl _ _ rfl z4 aH.out rfl rfl V6 rfl rfl (A7L _ _ _ _) ?_;intro w6 X I;have aI:=C6x X;have aG:=C6x I;clear X I)
  |fail)
 have aQ:=aP
 have aK:=aJ
 exact bodyPost_ret (A3r rfl _ _ rfl aI.out Tryz.underlying42 rfl (by rw[V6];rfl)) rfl ⟨rfl,A2D HS.out aF.out aR.out aK.out aQ.out aG.out⟩
theorem B9P(h:Hs W w Z d o n N k A)(X:k<=127)(x:D11)(hx:0<=x.k/\x.k<5)(hm:x.s.size<=maxLen/\x.t.size<=maxLen):Calls Tryz.prog 14 #[.pointer (some ⟨o,0,none⟩),.agg (d11 x)] w λr w'=>
 r= .returned (.agg (dnC (doR A (N-2-n) x).2.1 (doR A (N-2-n) x).2.2.1 (doR A (N-2-n) x).2.2.2))/\Hs W w' Z d o n N (k+3) (doR A (N-2-n) x).1/\R7 Z w w':=by
 obtain⟨Y,nn,J,I,V,U,s,t,kv⟩:=x
 simp only at hx hm
 have hc:Y=0\/Y=1\/Y=2\/Y=3\/Y=4:=by omega
 rcases hc with rfl|rfl|rfl|rfl|rfl
 ·exact C3C h X nn J I V U s t kv hm
 ·exact C3D h X nn J I V U s t kv hm
 ·exact C3E h X nn J I V U s t kv hm
 ·exact C3F h X nn J I V U s t kv
 ·exact C3G h X nn J I V U s t kv
end
end
section
open Go.RowKit Go.Maps
def dcs(l:List D11):List Value:=l.flatMap (λx=>(d11 x).toList)
theorem B4b(l m:List D11):dcs (l++m)=dcs l++dcs m:=by simp[dcs]
theorem C3H(l:List D11)(k j:Nat)(U:j<9)(J:k<l.length):(dcs l)[k * 9+j]? =((d11 l[k]).toList)[j]? :=by
 induction l generalizing k with
 |nil=>simp at J
 |cons d l ih=>
  have I:((d11 d).toList).length=9:=rfl
  cases k with
  |zero=>
   simp only[dcs,List.flatMap_cons,Nat.zero_mul,Nat.zero_add,List.getElem_cons_zero]
   rw[List.getElem?_append_left (by rw[I];exact U)]
  |succ k=>
   have h:=ih k (by simpa using J)
   simp only[dcs,List.flatMap_cons,List.getElem_cons_succ]at h⊢
   rw[List.getElem?_append_right (by rw[I];omega),<-h]
   congr 1
   rw[I];omega
theorem A49(x:D11):(d11 x).size=9:=rfl
theorem A17:(Tryz.prog.info? 38).map (·.size)=some 9:=by kernel_rfl
def A9n(l:List D11):Prop:=∀x∈l,x.kv.oneCell'=true
theorem B56{x:D11}(h:x.kv.oneCell'=true):(d11 x).all (·.oneCell')=true:=by
 rw[Array.all_eq_true_iff_forall_mem]
 intro u I
 simp only[d11,List.mem_toArray,List.mem_cons,List.not_mem_nil,or_false]at I
 rcases I with rfl|rfl|rfl|rfl|rfl|rfl|rfl|rfl|rfl<;>first|rfl|exact h
theorem B0y(l:List D11)(h:A9n l):∀u∈dcs l,u.oneCell'=true:=λu I=>by
 unfold dcs at I
 rw[List.mem_flatMap]at I
 obtain⟨x,J,I⟩:=I
 have:=B56 (h x J)
 rw[Array.all_eq_true_iff_forall_mem]at this
 exact this u (by simpa using I)
structure DsR (w:World) (v:Value) (l:List D11):Prop where
 rd:Rd w 9 v l.length (dcs l)
 sz:∀x∈l,x.s.size<=maxLen/\x.t.size<=maxLen
 one:A9n l
section
variable {w w':World} {v:Value} {l:List D11}
theorem DsR.step{F:Nat->Prop}(h:DsR w v l)(I:B0 B5 w F w'):DsR w' v l:=⟨h.rd.far (λ_ _ _ J=>I.block _ J (λx=>x)) I.size,h.sz,h.one⟩
theorem DsR.form(h:DsR w v l):∃A c,v= .slice A l.length c/\l.length<=c/\c<=maxLen:=h.rd.form
theorem DsR.range{A:Option Addr}{n c k:Nat}{x:D11}(h:DsR w (.slice A n c) l)(Y:n=l.length)(X:l[k]? =some x):k<n/\∃b o,A=some ⟨b,o,none⟩/\w.rangeAt b (o+k * 9) (d11 x).toList:=by
 subst Y
 obtain⟨I,hx⟩:=List.getElem?_eq_some_iff.1 X
 obtain⟨b,o,rfl,_,U⟩:=h.rd.cells (by omega) (by decide)
 refine⟨I,b,o,rfl,λj u J=>?_⟩
 have V:j<9:=(List.getElem?_eq_some_iff.1 J).1
 have:=U (k * 9+j) u (by rw[C3H l k j V I,hx];exact J)
 rw[<-Nat.add_assoc]at this
 exact this
end
structure DsO (W:World) (l:List D11) (v:Value) (w:World):Prop where
 ex:∃F,Sl w F 38 9 v l.length (dcs l)/\B0 B5 W F w
section
variable {W w w':World} {l:List D11} {v:Value}
theorem DsO.adv(h:DsO W l v w):B0 B5 W B5 w:=by
 obtain⟨F,_,I⟩:=h.ex
 exact I.nul
theorem DsO.step{F':Nat->Prop}(h:DsO W l v w)(I:B0 B5 w F' w'):DsO W l v w':=by
 obtain⟨F,J,U⟩:=h.ex
 exact⟨⟨F,J.far I (λ_ h _=>h),U.over I⟩⟩
theorem DsO.form(h:DsO W l v w):∃A c,v= .slice A l.length c:=by
 obtain⟨F,I,_⟩:=h.ex
 obtain⟨A,c,e,_⟩:=I.form0
 exact⟨A,c,e⟩
theorem DsO.rd(h:DsO W l v w):Rd w 9 v l.length (dcs l):=by
 obtain⟨F,I,_⟩:=h.ex
 exact I.rd
theorem DsO.more{m:List D11}(h:DsO W l v w):w.ownsRow 0 38 9 v l.length (dcs l)/\∀(J:World) I U,B0 B5 w B5 J->U.ownsRow 0 38 9 I (l.length+m.length) (dcs l++dcs m)->J.grownBy U v.ownBlock->(I.ownBlock=v.ownBlock\/I.ownBlock=some J.heap.size)->DsO W (l++m) I U:=by
 obtain⟨F,X,h2⟩:=h.ex
 refine⟨X.own,λJ I U V aC hg aB=>?_⟩
 have aA:=X.far V (λ_ h _=>h)
 obtain⟨Y,g2⟩:=A1r aA aC hg aB (Nat.le_refl _)
 exact⟨⟨_,by rw[List.length_append,B4b];exact Y,(h2.over V).trans g2⟩⟩
end
theorem A7M{w:World}{ty:TypeId}{v aB:Value}{n m:Nat}{U I:List Value}(V:w.ownsRow 0 38 9 v n U)(hr:Rd w 9 aB m I)(h1:∀u∈I,u.oneCell'=true)(hn:n+m<=1000000):
 ∃J w',(Builtin.append_ #[22,22] ty #[v,aB]).run Tryz.prog w= .ok J w'/\w'.ownsRow 0 38 9 J (n+m) (U++I)/\w.grownBy w' v.ownBlock/\(J.ownBlock=v.ownBlock\/J.ownBlock=some w.heap.size):=by
 obtain⟨i0,hi,aE,aF,aG⟩:=info_parts A7K
 obtain⟨A,c,rfl,aI,_,aA,hA,hc⟩:=hr
 rcases A with _|X
 ·obtain rfl:c=0:=hA rfl
  obtain rfl:m=0:=by omega
  obtain rfl:I=[]:=List.eq_nil_of_length_eq_zero (by simpa using aA)
  exact⟨v,w,run_append_owned_none (P:=Tryz.prog) w 0 22 ty 38 i0 9 Tryz.underlying22 hi v n U V,by simpa using V,World.grownBy.refl _ _,.inl rfl⟩
 ·have aC:∀j u,I[j]? =some u->w.cell? (X.add j)=some u:=by
   intro j u Y
   have hj:j<I.length:=(List.getElem?_eq_some_iff.1 Y).1
   obtain⟨aH,e,_,h⟩:=hc (by omega)
   have e:=Option.some.inj e
   subst e
   exact h j u Y
  obtain⟨J,w',aD,h2,h3,_,h5⟩:=run_append_own_at (P:=Tryz.prog) w 0 22 ty 38 i0 _ 9 104 Tryz.underlying22 hi aE aF aG rfl (by decide) v n U V X m c I aA aC h1 (by unfold maxLen;omega) (by omega) (Nat.zero_le _)
  exact⟨J,w',aD,h2,h3,h5⟩
section
variable {w:World} {ops:Array Oper} {rest:List Oper} {o:Oper} {a:Act} {Q:Exit->Act->World->Prop}
theorem Z4(aA:o.guard=none)(s x:Operand)
 (ho:o.op= .call { callee:=.builtin .append,args:= #[s,x],argTypes:= #[22,22] })
 {v U:Value} {n m:Nat} {V J:List Value} (hs:a.eval s=v) (hx:a.eval x=U) (aB:w.ownsRow 0 38 9 v n V) (hr:Rd w 9 U m J) (X:∀u∈J,u.oneCell'=true) (hn:n+m<=1000000)
 (h:∀I w',w'.ownsRow 0 38 9 I (n+m) (V++J)->w.grownBy w' v.ownBlock->(I.ownBlock=v.ownBlock\/I.ownBlock=some w.heap.size)->wpList Tryz.prog ops Q rest (a.put o.dst I) w'):wpList Tryz.prog ops Q (o::rest) a w:=by
 refine wpList_plain aA λK hK=>?_
 obtain⟨I,w',aC,Y,h3,h4⟩:=A7M (ty:=o.type) aB hr X hn
 unfold Oper.wp execOp
 simp only[ho,resolve,invoke,builtin,Sem.run_bind,Sem.run_pure,Result.andThen_ok,List.map_toArray,List.map_cons,List.map_nil,hs,hx,aC]
 exact hK _ _ (h I w' Y h3 h4)
theorem C3J(w:World)(x:D11):DsO w [x] (.slice (some ⟨w.heap.size,0,none⟩) 1 1) (w.alloc (.cells (d11 x) 38)):=by
 have J:C3 (w.alloc (.cells (d11 x) 38)) w.heap.size 38 (d11 x):=C3.new _ _ _
 refine⟨J0 w.heap.size,⟨⟨by simp[dcs,d11],.inr ⟨w.heap.size,1,_,rfl,Nat.zero_le _,J,Nat.le_refl _,by decide,by simp[d11],by simp[dcs,d11]⟩⟩,λk I=>?_,λk I=>?_⟩,?_⟩
 ·have:w.heap.size=k:=by simpa[Value.ownBlock]using I
  exact this.symm
 ·unfold J0 at I
  rw[I]
  exact J.lt
 ·have:=(B0.refl B5 w).alloc (.cells (d11 x) 38)
  exact⟨this.os,this.tape,this.output,this.size,this.block,λk I=>.inr (by unfold J0 at I;omega)⟩
theorem A7N(U:o.guard=none)(y:Operand)(X:o.op= .buildSlice 22 1 #[(0,y)])(x:D11)(Y:a.eval y= .agg (d11 x))
 (h:∀z w',DsO w [x] (.slice (some ⟨z,0,none⟩) 1 1) w'->B0 B5 w B5 w'->wpList Tryz.prog ops Q rest (a.put o.dst (.slice (some ⟨z,0,none⟩) 1 1)) w'):wpList Tryz.prog ops Q (o::rest) a w:=by
 obtain⟨ie,V,hz,I,_⟩:=info_parts A7K
 refine wpList_buildSlice U 22 38 1 _ X (d11 x) ie _ Tryz.underlying22 V hz (by rw[I];decide) (by rw[I];decide) ?_ (h _ _ (C3J w x) ((B0.refl _ _).alloc _))
 rw[I]
 have J:=Great.fill_whole (s:=9) (by decide) [Value.agg (d11 x)] ((Array.range (1 * 9)).map ((Value.agg #[.int .i64 0,.int .i64 0,.int .i64 0,.int .i64 0,.int .i64 0,.int .i64 0,.string ⟨#[]⟩,.string ⟨#[]⟩,.slice none 0 0]).cells[·%(Value.agg #[.int .i64 0,.int .i64 0,.int .i64 0,.int .i64 0,.int .i64 0,.int .i64 0,.string ⟨#[]⟩,.string ⟨#[]⟩,.slice none 0 0]).cells.size]!)) (λv hv=>by
  rw[List.mem_singleton]at hv
  subst hv
  rfl) (by simp)
 simpa[Y,Value.cells,d11]using J
end
def A5u(n:Nat)(s:ByteArray):ByteArray:=if n<s.size then s.extract 0 n else s
theorem A9o(n:Nat)(s:ByteArray):(A5u n s).size<=n:=by
 unfold A5u
 split
 ·simp only[ByteArray.size_extract];omega
 ·omega
def A5K(x:D11):D11:={ x with s:=A5u 70 x.s,t:=A5u 20 x.t }
def Y4(n:Nat)(l:List D11):List D11:=(l.take n).map A5K
theorem A4A(n:Nat)(l:List D11):(Y4 n l).length=min n l.length:=by simp[Y4]
theorem B7m{n:Nat}{l:List D11}(h:A9n l):A9n (Y4 n l):=λx I=>by
 obtain⟨y,J,rfl⟩:=List.mem_map.1 I
 exact h y (List.mem_of_mem_take J)
theorem B9Q(n:Nat)(l:List D11):∀x∈Y4 n l,x.s.size<=maxLen/\x.t.size<=maxLen:=λx I=>by
 obtain⟨y,V,rfl⟩:=List.mem_map.1 I
 have J:=A9o 70 y.s
 have U:=A9o 20 y.t
 exact⟨by show(A5u 70 y.s).size<=maxLen;unfold maxLen;omega,by show(A5u 20 y.t).size<=maxLen;unfold maxLen;omega⟩
theorem DsO.dsr{W w:World}{l:List D11}{n:Nat}{v:Value}(h:DsO W (Y4 n l) v w)(I:A9n l):DsR w v (Y4 n l):=⟨h.rd,B9Q n l,B7m I⟩
def FwD(w:World)(l:List D11)(n:Nat)(t5 t6:Value)(wr:World):Prop:=∃j:Nat,t6= .int .i64 (j:Int)/\j<=l.length/\j<=n/\DsO w (Y4 j l) t5 wr
theorem B7n(v:Value)(l:List D11)(n:Nat)(hn:n<=100)(w:World)(h:DsR w v l):Calls Tryz.prog 9 #[v,.int .i64 (n:Int)] w λx w'=>∃v',x= .returned v'/\DsO w (Y4 n l) v' w':=by
 obtain⟨A,c,rfl,bS,aX⟩:=h.form
 obtain⟨N,hN⟩:∃N,N=l.length:=⟨_,rfl⟩
 have bT:(N:Int)<=9223372036854775807:=by unfold maxLen at aX;omega
 rw[<-hN]at h⊢
 have bX:(n:Int)<=100:=by omega
 have HR:=C6x h
 have U:=C6x hN
 have bJ:=C6x hn
 clear h hN bS aX hn
 go_enter Tryz.func9,Tryz.ntmps9
 go_wp2_with fail
 go_loopw [5,6] (FwD w l n) (λ_ t _=>N-(intOf t).toNat)
 case atStart=>exact⟨0,rfl,Nat.zero_le _,Nat.zero_le _,⟨⟨B5,Sl.nil _ _ _,B0.refl _ _⟩⟩⟩
 case round=>
  obtain⟨j,rfl,hj,aU,hE⟩:=hrel
  rw[<-U.out]at hj
  have aV:(Y4 j l).length=j:=by rw[A4A,<-U.out];omega
  obtain⟨A5,c5,rfl⟩:=hE.form
  rw[aV]at hE⊢
  have HE:=C6x hE
  have HL:=C6x aV
  clear hE aV
  have bQ:(j<N/\j<n)\/((j:Int)<N/\(n:Int)<=j/\j=n)\/((N:Int)<=j/\j=N):=by omega
  rcases bQ with⟨aJ,aY⟩|⟨aJ,bR,aT⟩|⟨bR,aT⟩
  ·have aI:j<l.length:=by rw[<-U.out];exact aJ
   obtain⟨x,hx⟩:∃x,x=l[j]:=⟨_,rfl⟩
   have bA:l[j]? =some x:=by rw[hx];exact List.getElem?_eq_getElem aI
   obtain⟨_,b,o,hA,aZ⟩:=(HR.out.step HE.out.adv).range U.out bA
   subst hA
   have aK:x∈l:=by rw[hx];exact List.getElem_mem aI
   have aW:=HR.out.sz x aK
   have aO:=C6x (show A9n [A5K x]fromλy hy=>by rw[List.mem_singleton.1 hy];exact HR.out.one x aK)
   have bK:=C6x (show x.kv.oneCell'=true from HR.out.one x aK)
   have HF:=C6x (show Y4 (j+1) l=Y4 j l++[A5K x]by unfold Y4;rw[List.take_succ_eq_append_getElem aI,List.map_append,hx];rfl)
   have bM:=C6x aZ
   have aP:=C6x (λV=>show Calls Tryz.prog 30 #[.string x.s,.int .i64 70] V λe w'=>e= .returned (.string (A5u 70 x.s))/\V=w' from A8G x.s 70 V (by decide) aW.1)
   have aQ:=C6x (λV=>show Calls Tryz.prog 30 #[.string x.t,.int .i64 20] V λe w'=>e= .returned (.string (A5u 20 x.t))/\V=w' from A8G x.t 20 V (by decide) aW.2)
   have aB:=C6x (λV (a:B0 B5 wr B5 V)=>(HE.out.step a).more (m:=[A5K x]))
   rw[HL.out]at aB
   have aC:=C6x aJ
   have aM:=C6x aY
   have aN:=C6x (show j+1<=1000000 by have:=bJ.out;omega)
   have bV:(j:Int)<(N:Int):=by omega
   have bU:(j:Int)<(n:Int):=by omega
   clear hx bA aI aK aZ aW aJ aY hj aU
   go_upto_region 6 with(first
    |(refine B9 rfl rfl A7K ?_;intro I w9 hz hb J;have aS:=C6x hz;have bI:=C6x hb;have bH:=C6x J;clear hz hb J)
    |(refine B7 (t:=38) rfl _ _ rfl I bI.out rfl rfl A17 (A49 _) rfl (B56 bK.out) ?_;intro aA hb J;have bP:=C6x hb;have bG:=C6x (bH.out.fresh aS.out J);clear hb J)
    |(refine wpList_load_mid rfl 38 (.tmp 21) rfl b _ rfl ((d11 x).toList) _ bM.out Tryz.underlying38 rfl (by rw[A17];rfl) ?_)
    |fail)
   have aF:=C6x (show C3 aA.drew I 38 (d11 x)from bP.out)
   have c6:aA.cell? ⟨I,6,none⟩=some (.string x.s):=aF.out.cell 6
   have f6:aA.frozen? ⟨I,6,none⟩=false:=aF.out.frozen 6
   have c7:aA.cell? ⟨I,7,none⟩=some (.string x.t):=aF.out.cell 7
   have bO:=C6x (show C3 (aA.drew.setCell ⟨I,6,none⟩ (.string (A5u 70 x.s))) I 38 _ from aF.out.set_ 6 _)
   have f7:aA.frozen? ⟨I,7,none⟩=false:=aF.out.frozen 7
   have aR:=C6x (show C3 ((aA.drew.setCell ⟨I,6,none⟩ (.string (A5u 70 x.s))).setCell ⟨I,7,none⟩ (.string (A5u 20 x.t))) I 38 (d11 (A5K x))from bO.out.set_ 7 _)
   have aL:=C6x (show B0 B5 wr B5 ((aA.drew.setCell ⟨I,6,none⟩ (.string (A5u 70 x.s))).setCell ⟨I,7,none⟩ (.string (A5u 20 x.t)))from(bG.out.drew.setCell (.inr aS.out) _).setCell (.inr aS.out) _)
   refine D6 (S:=(λ_=>True)) (by first|exact True.intro) (λhH=>?_)
   refine C6y 0 rfl ?_
   refine C6y 3 rfl ?_
   refine C63 1 4 rfl rfl (λK hK=>?_) (λK hK=>?_)
   ·go_simp
    refine C60 hK (by first|exact True.intro) ?_
    clear hK K hH
    intro hH
    try simp only[Act.put,sA,sB,sC]
    refine C63 2 4 rfl rfl (λK hK=>?_) (λK hK=>?_)
    ·go_simp
     refine(aP.out _).mono ?_
     rintro r bB ⟨rfl,rfl⟩
     go_wp2_with fail
     refine C60 hK (by first|exact True.intro) ?_
     clear hK K hH
     intro hH
     try simp only[Act.put,sA,sB,sC]
     refine C6z 4 rfl (λK hK=>?_)
     go_simp
     refine C60 hK (by first|exact True.intro) ?_
     clear hK K hH
     intro hH
     try simp only[Act.put,sA,sB,sC]
     refine C6y 6 rfl ?_
     refine C6z 5 rfl (λK hK=>?_)
     go_simp
     refine(aQ.out _).mono ?_
     rintro r bC ⟨rfl,rfl⟩
     go_wp2_with fail
     refine C60 hK (by first|exact True.intro) ?_
     clear hK K hH
     intro hH
     try simp only[Act.put,sA,sB,sC]
     refine C6z 7 rfl (λK hK=>?_)
     go_simp
     refine C60 hK (by first|exact True.intro) ?_
     clear hK K hH
     intro hH
     try simp only[Act.put]
     refine C6y 8 rfl ?_
     refine C6z 9 rfl (λK hK=>?_)
     go_simp
     refine C60 hK (by first|exact True.intro) ?_
     clear hK K hH
     intro hH
     try simp only[Act.put]
     refine wpAnyH_done (by kernel_rfl) ?_ _
     go_wp2_with (first
      |(refine B6 (t:=38) rfl _ rfl I aR.out rfl Tryz.underlying38 rfl A17 (A49 _) ?_)
      |(refine A7N rfl _ rfl (A5K x) rfl ?_;intro bF bD hf J;have aD:=C6x hf;have X:=C6x (aL.out.trans J);clear hf J)
      |(refine Z4 rfl _ _ rfl rfl rfl (aB.out _ X.out).1 aD.out.rd (B0y _ aO.out) aN.out ?_;intro aG aH Y h2 h3;have aE:=C6x ((aB.out _ X.out).2 _ aG aH (B0.refl _ _) Y h2 h3);clear Y h2 h3)
      |fail)
     exact⟨⟨j+1,by go_num,by rw[<-U.out];exact aC.out,aM.out,by rw[HF.out];exact aE.out⟩,by have:=aC.out;simp[intOf]<;>omega⟩
    ·go_simp
     refine C60 hK (by first|exact True.intro) ?_
     clear hK K hH
     intro hH
     try simp only[Act.put,sA,sB,sC]
     refine C6z 2 rfl (λK hK=>?_)
     go_simp
     refine(aP.out _).mono ?_
     rintro r bB ⟨rfl,rfl⟩
     go_wp2_with fail
     refine C60 hK (by first|exact True.intro) ?_
     clear hK K hH
     intro hH
     try simp only[Act.put,sA,sB,sC]
     refine C6y 6 rfl ?_
     refine C6z 5 rfl (λK hK=>?_)
     go_simp
     refine(aQ.out _).mono ?_
     rintro r bC ⟨rfl,rfl⟩
     go_wp2_with fail
     refine C60 hK (by first|exact True.intro) ?_
     clear hK K hH
     intro hH
     try simp only[Act.put,sA,sB,sC]
     refine C6z 7 rfl (λK hK=>?_)
     go_simp
     refine C60 hK (by first|exact True.intro) ?_
     clear hK K hH
     intro hH
     try simp only[Act.put]
     refine C6y 8 rfl ?_
     refine C6z 9 rfl (λK hK=>?_)
     go_simp
     refine C60 hK (by first|exact True.intro) ?_
     clear hK K hH
     intro hH
     try simp only[Act.put]
     refine wpAnyH_done (by kernel_rfl) ?_ _
     go_wp2_with (first
      |(refine B6 (t:=38) rfl _ rfl I aR.out rfl Tryz.underlying38 rfl A17 (A49 _) ?_)
      |(refine A7N rfl _ rfl (A5K x) rfl ?_;intro bF bD hf J;have aD:=C6x hf;have X:=C6x (aL.out.trans J);clear hf J)
      |(refine Z4 rfl _ _ rfl rfl rfl (aB.out _ X.out).1 aD.out.rd (B0y _ aO.out) aN.out ?_;intro aG aH Y h2 h3;have aE:=C6x ((aB.out _ X.out).2 _ aG aH (B0.refl _ _) Y h2 h3);clear Y h2 h3)
      |fail)
     exact⟨⟨j+1,by go_num,by rw[<-U.out];exact aC.out,aM.out,by rw[HF.out];exact aE.out⟩,by have:=aC.out;simp[intOf]<;>omega⟩
   ·go_simp
    refine C60 hK (by first|exact True.intro) ?_
    clear hK K hH
    intro hH
    try simp only[Act.put,sA,sB,sC]
    refine C6z 1 rfl (λK hK=>?_)
    go_simp
    refine C60 hK (by first|exact True.intro) ?_
    clear hK K hH
    intro hH
    try simp only[Act.put,sA,sB,sC]
    refine C6z 2 rfl (λK hK=>?_)
    go_simp
    refine(aP.out _).mono ?_
    rintro r bB ⟨rfl,rfl⟩
    go_wp2_with fail
    refine C60 hK (by first|exact True.intro) ?_
    clear hK K hH
    intro hH
    try simp only[Act.put,sA,sB,sC]
    refine C6y 6 rfl ?_
    refine C6z 5 rfl (λK hK=>?_)
    go_simp
    refine(aQ.out _).mono ?_
    rintro r bC ⟨rfl,rfl⟩
    go_wp2_with fail
    refine C60 hK (by first|exact True.intro) ?_
    clear hK K hH
    intro hH
    try simp only[Act.put,sA,sB,sC]
    refine C6z 7 rfl (λK hK=>?_)
    go_simp
    refine C60 hK (by first|exact True.intro) ?_
    clear hK K hH
    intro hH
    try simp only[Act.put]
    refine C6y 8 rfl ?_
    refine C6z 9 rfl (λK hK=>?_)
    go_simp
    refine C60 hK (by first|exact True.intro) ?_
    clear hK K hH
    intro hH
    try simp only[Act.put]
    refine wpAnyH_done (by kernel_rfl) ?_ _
    go_wp2_with (first
     |(refine B6 (t:=38) rfl _ rfl I aR.out rfl Tryz.underlying38 rfl A17 (A49 _) ?_)
     |(refine A7N rfl _ rfl (A5K x) rfl ?_;intro bF bD hf J;have aD:=C6x hf;have X:=C6x (aL.out.trans J);clear hf J)
     |(refine Z4 rfl _ _ rfl rfl rfl (aB.out _ X.out).1 aD.out.rd (B0y _ aO.out) aN.out ?_;intro aG aH Y h2 h3;have aE:=C6x ((aB.out _ X.out).2 _ aG aH (B0.refl _ _) Y h2 h3);clear Y h2 h3)
     |fail)
    exact⟨⟨j+1,by go_num,by rw[<-U.out];exact aC.out,aM.out,by rw[HF.out];exact aE.out⟩,by have:=aC.out;simp[intOf]<;>omega⟩
  ·subst aT
   clear hj aU
   go_wp2_with fail
   go_ret
   exact⟨_,rfl,HE.out⟩
  ·have HF:=C6x (show Y4 n l=Y4 j l by unfold Y4;rw[List.take_of_length_le (by rw[<-U.out];omega),List.take_of_length_le (by rw[<-U.out];omega)])
   subst aT
   clear hj aU
   go_wp2_with fail
   go_ret
   exact⟨_,rfl,by rw[HF.out];exact HE.out⟩
end
section
open Go.RowKit Go.Maps
section
variable {A:As} {M:Nat}
end
end
section
open Go.ChangeShapes Go.WideShapes Go.ChangeAt Go.RowKit Go.Deep
theorem B28{H:Type}{enc:TypeId×Value->H}{P:Program}{W:World}{t e:TypeId}{k:IntKind}{aB:Nat}{v:Value}{x:DataW H×List MemPlace}(ht:P.underlying t=some (.slice e))(he:P.underlying e=some (.int k))(hc:P.cellsOf e=1)
 (hf:DataW.trod enc P W 0 (λ_=>true) true aB t [v]=some x):
 ∃(n:Nat) (J:List Int),Rd W 1 v n (J.map (Value.int k))/\J.length=n/\(∀z∈J,(Lit.int k z).wf=true)/\(∀b,v.ownBlock=some b->0<n->b<W.heap.size):=by
 rcases open_ints ht he hc hf with⟨U,_⟩|⟨x,l,c,J,U,_,hl,hm,X,_,Y,aC⟩
 ·simp at U
  subst U
  exact⟨0,[],⟨none,0,rfl,Nat.le_refl _,Nat.zero_le _,rfl,λ_=>rfl,λI=>absurd I (by omega)⟩,rfl,λ_ X=>by simp at X,λb V=>by simp[Value.ownBlock]at V⟩
 ·simp at U
  subst U
  have aE:J.length=c:=by simpa using X
  have aA:0<l->x.block<W.heap.size:=λI=>by
   have h:=World.block_lt_of_cell? _ _ (Y 0 (by omega))
   rwa[A01]at h
  refine⟨l,J.take l,⟨some x,c,rfl,hl,hm,by simp;omega,λI=>(by cases I),λI=>⟨x,rfl,aA I,λj u hu=>?_⟩⟩,by simp;omega,λz aD=>aC z (List.mem_of_mem_take aD),λb V I=>?_⟩
  ·obtain⟨h1,h2,rfl⟩:=A9p k J l j u hu
   exact Y j (by omega)
  ·have:x.block=b:=by simpa[Value.ownBlock]using V
   rw[<-this];exact aA I
theorem B29:Tryz.prog.cellsOf 35=2:=by kernel_rfl
theorem A3P:Tryz.prog.cellsOf 3=1:=by kernel_rfl
theorem A8s:Tryz.prog.cellsOf 9=1:=by kernel_rfl
end
section
open Go.ChangeShapes Go.WideShapes Go.ChangeAt Go.RowKit Go.Deep
end
section
open Go.ChangeShapes Go.WideShapes Go.ChangeAt Go.RowKit Go.Deep
theorem A7P{α:Type}{H:Type}{enc:TypeId×Value->H}{W:World}(J:α->List Value)(c:Nat)(U:α->Prop){t e:TypeId}(ht:Tryz.prog.underlying t=some (.slice e))(aH:Tryz.prog.cellsOf e=c)(aA:0<c)(aB:∀x,(J x).length=c)
 (aK:∀{n:Nat} {cs:List Value} {x:DataW H×List MemPlace},DataW.trod enc Tryz.prog W 0 (λ_=>true) true n e cs=some x->∃d,cs=J d/\U d) {aF:Nat} {v:Value} {x:DataW H×List MemPlace} (hf:DataW.trod enc Tryz.prog W 0 (λ_=>true) true aF t [v]=some x):
 ∃I:List α,Rd W c v I.length (I.flatMap J)/\∀d∈I,U d:=by
 rcases open_slice ht hf with⟨V,_⟩|⟨x,l,cp,m,n,D,Pl,V,_,hl,hm,aM,_,hi⟩
 ·simp at V
  subst V
  exact⟨[],⟨none,0,rfl,Nat.le_refl _,Nat.zero_le _,by simp,λ_=>rfl,λY=>absurd Y (by simp)⟩,λ_ hz=>by simp at hz⟩
 ·simp at V
  subst V
  simp only[if_true]at aM
  have H1:∀i,i<l->∃d:α,(∀j,j<c->W.cell? (x.add (i * c+j))=(J d)[j]?)/\U d:=by
   intro i aP
   obtain⟨aO,hc,aN⟩:=hi i (by omega)
   rw[aH]at hc
   obtain⟨d,rfl,h1⟩:=aK aN
   obtain⟨_,_,aG⟩:=World.cells?_some hc
   refine⟨d,λj hj=>?_,h1⟩
   rw[<-aG j hj,Go.Deep.add_add]
  obtain⟨I,aI,X⟩:∃I:List α,I.length=l/\∀i (h:i<I.length),(∀j,j<c->W.cell? (x.add (i * c+j))=(J I[i])[j]?)/\U I[i]:=by
   clear hi hf
   have:∀n:Nat,(∀i,i<n->∃d:α,(∀j,j<c->W.cell? (x.add (i * c+j))=(J d)[j]?)/\U d)->∃I:List α,I.length=n/\∀i (h:i<I.length),(∀j,j<c->W.cell? (x.add (i * c+j))=(J I[i])[j]?)/\U I[i]:=by
    intro n
    induction n with
    |zero=>exactλ_=>⟨[],rfl,λi h=>absurd h (by simp)⟩
    |succ n ih=>
     intro H
     obtain⟨I,hl,X⟩:=ih (λi hi=>H i (by omega))
     obtain⟨d,hq⟩:=H n (by omega)
     refine⟨I++[d],by simp[hl],λi h=>?_⟩
     rw[List.length_append,List.length_singleton]at h
     by_cases hi:i<I.length
     ·rw[List.getElem_append_left hi];exact X i hi
     ·have e:i=n:=by omega
      subst e
      rw[List.getElem_append_right (by omega)]
      simpa[hl]using hq
   exact this l H1
  have aC:(I.flatMap J).length=I.length * c:=A50 J c I (λ_ _=>aB _)
  refine⟨I,⟨some x,cp,by rw[aI],by omega,hm,aC,λY=>(by cases Y),λY=>⟨x,rfl,?_,?_⟩⟩,?_⟩
  ·have h0:=(X 0 Y).1 0 aA
   have hs:∃u,(J I[0])[0]? =some u:=⟨_,List.getElem?_eq_getElem (by rw[aB];exact aA)⟩
   obtain⟨u,hu⟩:=hs
   have:=World.block_lt_of_cell? _ _ (h0.trans hu)
   rwa[A01]at this
  ·intro j u hu
   have aE:j<(I.flatMap J).length:=(List.getElem?_eq_some_iff.1 hu).1
   rw[aC]at aE
   have hk:j/c<I.length:=Nat.div_lt_of_lt_mul (by rw[Nat.mul_comm];exact aE)
   have aD:j%c<c:=Nat.mod_lt _ aA
   have e:j=j/c * c+j%c:=by rw[Nat.mul_comm];exact(Nat.div_add_mod j c).symm
   rw[e]at hu⊢
   rw[(X (j/c) hk).1 (j%c) aD,<-hu,A93 J c I (λ_ _=>aB _) (j/c) (j%c) hk aD]
  ·intro d aJ
   obtain⟨i,aL,rfl⟩:=List.getElem_of_mem aJ
   exact(X i aL).2
end
end Go.Proofs.YtbefmjiclpobjaaGreat
