import Derived.Test.YtbefmjiclpobjaaGreatMi18
import Derived.Test.YtbefmjiclpobjaaGreatMi11
namespace Go.Proofs.YtbefmjiclpobjaaGreat
set_option maxHeartbeats 3200000
set_option maxRecDepth 3000
section
open Go.RowKit Go.Maps
section
variable {ops:Array Oper} {o:Oper} {a:Act} {w:World} {Q:Exit->Act->World->Prop} {K:Act->World->Prop} {E:Prop}
theorem B8L(U:o.guard=none)(x:Operand)(W:o.op= .load 173 x)(b I:Nat)(l:List Nat)(V:l.length=128)(J:w.rangeAt b I (l.map u8))(X:a.eval x= .pointer (some ⟨b,I,none⟩))
 (h:K (a.put o.dst (.agg (l.map u8).toArray)) w):if Region.wanted o (yielded ops a.tmps)=true then Oper.wp Tryz.prog o a w K Q else E:=by
 rw[if_pos (by simp[Region.wanted,U])]
 exact wp_load_mid 173 x W b I X (l.map u8) _ J Tryz.underlying173 rfl (by rw[X5,List.length_map,V]) h
theorem C0Y(I:o.guard=none)(x:Operand)(J:o.op= .sliceToArrayPointer 173 x)(A:Option Addr)(c:Nat)(U:a.eval x= .slice A 128 c)
 (h:K (a.put o.dst (.pointer A)) w):if Region.wanted o (yielded ops a.tmps)=true then Oper.wp Tryz.prog o a w K Q else E:=by
 rw[if_pos (by simp[Region.wanted,I])]
 unfold Oper.wp execOp
 simp[J,U,Instr.arrayAt,run_underlying Tryz.underlying173,Result.andThen]
 exact h
theorem C0Z(Y:o.guard=none)(m x v:Operand)(ho:o.op=Op.mapUpdate 86 m x v)(b N i:Nat)(A:Nat->Option (List Nat))(l:List Nat)(X:Mp w b N A)(Z:a.eval m= .map (some b))(hx:a.eval x= .int .i64 (i:Int))(hv:a.eval v= .agg (l.map u8).toArray)(hi:i<N)(hN:N<=4096)
 (hK:∀w',Mp w' b N (S7 A i l)->w.grownBy w' (some b)->K (a.put o.dst undef) w'):if Region.wanted o (yielded ops a.tmps)=true then Oper.wp Tryz.prog o a w K Q else E:=by
 rw[if_pos (by simp[Region.wanted,Y])]
 obtain⟨D,h,d⟩:=X
 obtain⟨w',aA,r1,r2⟩:=h.update P2 Tryz.underlying86 (by have:=A6J A N;unfold maxLen;omega) (A3D (i:=i) (by omega)) (A1R l)
 unfold Oper.wp
 simp[execOp,ho,Z,hx,hv,aA,Result.andThen]
 refine hK w' ⟨_,?_,d.put hi⟩ r2
 obtain⟨U,c,V,W,h3,J⟩:=r1
 refine⟨U,c,V,W,?_,J⟩
 have I:=(d.put (l:=l) hi).size
 rw[J]at I
 rw[<-I]
 simp[Maps.size,length_sorted]
end
section
variable {w w':World} {E:Ev} {c m:Nat} {H:Nat->List Nat} {e:Int} {F':Nat->Prop}
theorem A8H(h:Cg w E c m H e)(i:Int)(A0:Option Addr)(n0 k0:Nat)(x:List Nat)(h0:e=0->∃j:Nat,i=(j:Int)/\j<E.M/\n0=128/\x.length=128/\(∀y∈x,y<256)/\Rd w 1 (.slice A0 128 k0) 128 (x.map u8)):
 Calls Tryz.prog 98 #[.pointer (some ⟨c,0,none⟩),.int .i64 i,.slice A0 n0 k0] w λr w'=>r= .returned (.tuple #[])/\Cg w' E c m (A1s e H i.toNat x) e/\B1 (CF c m) w (CF c m) w':=by
 have c2:w.cell? ⟨c,3,none⟩=some (.int .i64 e):=h.blk.cell 3
 by_cases J:e=0
 ·obtain⟨j,rfl,hj,rfl,hl,h8,hr⟩:=h0 J
  subst J
  have V:A1s 0 H (j:Int).toNat x=P1 H j x:=by unfold A1s;rw[if_pos rfl,Int.toNat_natCast]
  rw[V]
  obtain⟨A,h1,h2,h3,h4⟩:=h.ex
  obtain⟨b,o,rfl,hb,hc⟩:=hr.cells (by decide) (by decide)
  have HJ:=C5Z hj
  have aD:=C5Z (show E.M<=4096 by have:=h.so.vu.hn;unfold Ev.M;omega)
  have HL:=C5Z hl
  have aF:=C5Z (show w.drew.rangeAt b o (x.map u8)from hc)
  have aE:=C5Z (show Mp w.drew m E.M A from h1)
  have W:=C5Z (show w.cell? ⟨c,1,none⟩=some (.map (some m))from h.blk.cell 1)
  have X:=C5Z (show w.drew.cell? ⟨c,1,none⟩=some (.map (some m))from h.blk.cell 1)
  have aC:=C5Z (show∀I,Mp I m E.M (S7 A j x)->w.drew.grownBy I (some m)->I.cell? ⟨c,1,none⟩=some (.map (some m))/\Cg I E c m (P1 H j x) 0/\B1 (CF c m) w (CF c m) I fromλI Z U=>by
   have ha:B1 (CF c m) w (CF c m) I:=(B1.refl (CF c m) w).drew.grown U (λk e=>.inl (.inr (Option.some.inj e).symm))
   have aB:=h.blk.keep (U.block c h.blk.lt (λe=>h.ne (Option.some.inj e)))
   refine⟨aB.cell 1,⟨h.so_far ha,⟨S7 A j x,Z,h2.set hj hl h8,by rw[C0X,h3],λi hi=>?_⟩,aB,h.sc,h.sm⟩,ha⟩
   have:=h4 i hi
   unfold S7
   split
   ·rfl
   ·exact this)
  clear h0 V h1 h2 h3 h4 hb hc hr hj hl h8 h
  go_enter Tryz.func98,Tryz.ntmps98
  go_upto_region 1 with(fail)
  refine D8 (S:=(λw'=>w'.cell? ⟨c,1,none⟩=some (.map (some m)))) (by with_reducible first|exact Y.out|exact X.out|exact W.out) (λhH=>?_)
  refine C6a 0 rfl ?_
  refine C6a 1 rfl ?_
  refine C6a 2 rfl ?_
  refine C6a 3 rfl ?_
  refine C6a 4 rfl ?_
  refine C6a 5 rfl ?_
  refine C6a 6 rfl ?_
  refine C6b 7 rfl (λK hK=>?_)
  refine C0Y rfl _ rfl (some ⟨b,o,none⟩) k0 rfl ?_
  refine C6c hK (by with_reducible first|exact Y.out|exact X.out|exact W.out) ?_
  clear hK K hH
  intro hH
  try simp only[Act.put,sA,sB,sC]
  refine C6b 8 rfl (λK hK=>?_)
  refine B8L rfl _ rfl b o x HL.out aF.out rfl ?_
  refine C6c hK (by with_reducible first|exact Y.out|exact X.out|exact W.out) ?_
  clear hK K hH
  intro hH
  try simp only[Act.put,sA,sB,sC]
  refine C6b 9 rfl (λK hK=>?_)
  refine C0Z rfl _ _ _ rfl m E.M j A x aE.out rfl rfl rfl HJ.out aD.out ?_
  intro I Z U
  have aA:=C5Z (aC.out I Z U)
  have Y:=C5Z (aA.out.1)
  clear Z U
  refine C6c hK (by with_reducible first|exact Y.out|exact X.out|exact W.out) ?_
  clear hK K hH
  intro hH
  try simp only[Act.put]
  refine wpAnyH_done (by kernel_rfl) ?_ _
  go_wp2_with fail
  exact bodyPost_end (results_none rfl _ _ _) rfl ⟨rfl,aA.out.2⟩
 ·have V:A1s e H i.toNat x=H:=by unfold A1s;rw[if_neg J]
  rw[V]
  have HC:=C5Z h
  have hb:(e==0)=false:=by rw[beq_eq_false_iff_ne];exact J
  clear h h0 V J
  go_enter Tryz.func98,Tryz.ntmps98
  go_wp2
  exact bodyPost_end (results_none rfl _ _ _) rfl ⟨rfl,HC.out,B1.refl _ _⟩
end
end
section
open Go.RowKit
theorem B1.freshG{G F':Nat->Prop}{w w1 w2:World}{z:Nat}(h:B1 G w G w1)(J:w.heap.size<=z)(k:B1 (L6 z) w1 F' w2):B1 G w G w2:=
 ⟨k.os.trans h.os,k.tape.trans h.tape,k.output.trans h.output,Nat.le_trans h.size k.size,λi hi I=>(k.block i (Nat.lt_of_lt_of_le hi h.size) (λe=>by unfold L6 at e;omega)).trans (h.block i hi I),λ_ x=>.inl x⟩
open Classical in
noncomputable def mapB(T:List Bool):List Nat:=if h:∃r,Rep r T then h.choose else []
theorem Rep.mapB{r:List Nat}{T:List Bool}(h:Rep r T):mapB T=r:=by
 unfold Go.Proofs.YtbefmjiclpobjaaGreat.mapB
 rw[dif_pos ⟨r,h⟩]
 exact(Exists.choose_spec (⟨r,h⟩:∃r,Rep r T)).inj h
def A8b(x:M5):Int:=if okI x then 0 else 2
section
variable {w w' w0 w1 w2:World} {E:Ev} {c m:Nat} {H H0:Nat->List Nat} {e e0:Int} {F' F:Nat->Prop}
theorem So.bd(h:So w E):(∀k,E.U k->k<w.heap.size)/\E.o<w.heap.size/\E.mo<w.heap.size:=⟨λk I=>h.vu.rs.bd k I,h.blk.lt,h.vu.mp.lt⟩
theorem Cg.freshA{G:Nat->Prop}(U:Cg w0 E c m H0 e0)(h:Cg w1 E c m H e)(hd:∀k,G k->w0.heap.size<=k)(ha:B1 G w1 F w2):Cg w2 E c m H e:=by
 obtain⟨X,Y,Z⟩:=U.so.bd
 obtain⟨b4,b5⟩:=U.lt
 have J:B1 G w1 G w2:=ha.same (λ_ x=>x)
 have I:∀k,k<w0.heap.size->¬G k:=λk W hg=>by have:=hd k hg;omega
 obtain⟨A,V,h2,h3,h4⟩:=h.ex
 exact⟨h.so.far J (λk W hu=>I k (X k hu) W) (I _ Y) (I _ Z),⟨A,V.keep (J.block m V.lt (I _ b5)),h2,h3,h4⟩,h.blk.keep (J.block c h.blk.lt (I _ b4)),h.sc,h.sm⟩
theorem Cg.fresh{d:Nat}(I:Cg w0 E c m H0 e0)(h:Cg w1 E c m H e)(V:w0.heap.size<=d)(J:B1 (L6 d) w1 F w2):Cg w2 E c m H e:=
 Cg.freshA I h (G:=L6 d) (λk U=>by unfold L6 at U;omega) J
theorem Cg.apart(I:Cg w0 E c m H0 e0){G:Nat->Prop}(J:∀k,G k->w0.heap.size<=k):Sep (CF c m) G:=λk V U=>by
 obtain⟨W,X⟩:=I.lt
 have:=J k U
 rcases V with rfl|rfl<;>omega
theorem Sl.past{t:TypeId}{I n:Nat}{v:Value}{J:List Value}(s:Sl w1 F t I v n J)(U:Cg w0 E c m H0 e0)(hF:∀k,F k->w0.heap.size<=k)(V:B1 (CF c m) w1 F' w2):Sl w2 F t I v n J:=
 s.far (V.same (λ_ x=>x)) (U.apart hF)
theorem B1.newS{w w1:World}{F:Nat->Prop}(h:B1 B5 w F w1):∀k,F k->w.heap.size<=k:=λk I=>by
 rcases h.into k I with x|x
 ·exact x.elim
 ·exact x
theorem Am.past{d:Nat}{T:List Bool}(s:Am w1 d T)(I:Cg w0 E c m H0 e0)(V:w0.heap.size<=d)(J:B1 (CF c m) w1 F' w2):Am w2 d T:=
 s.far J (λU=>I.apart (G:=L6 d) (λk e=>by unfold L6 at e;omega) d U rfl)
theorem A7p(h:Cg w E c m H e)(i:Nat)(hi:i<=40)(x:M5)(hx:WfI x)(hM:46<=E.M):
 Calls Tryz.prog 104 #[.pointer (some ⟨c,0,none⟩),.int .i64 (i:Int),.agg (ic x)] w λr w'=>r= .returned (.tuple #[])/\Cg w' E c m (A1s (N7 e (A8b x)) H (1+i) (secI x)) (N7 e (A8b x))/\B1 (CF c m) w (CF c m) w':=by
 have Y:=C5Z h
 have HE:=C5Z (λW=>A55 x hx W)
 have HN:=C5Z (λ(W:World) (a:Cg W E c m H e)=>U4 a (A8b x))
 have HI:=C5Z hi
 have HM:=C5Z hM
 obtain⟨j,hj⟩:∃j,j=1+i:=⟨_,rfl⟩
 have hw:IntKind.i64.wrap (1+(i:Int))=(j:Int):=by rw[IntKind.wrap_i64];omega
 rw[<-hj]
 obtain⟨U,V⟩:∃U,U=N7 e (A8b x):=⟨_,rfl⟩
 have Z:=C5Z (show U=0->okI x by
  intro I
  rw[V]at I
  unfold N7 A8b at I
  split at I
  ·split at I
   ·assumption
   ·cases I
  ·rename_i h1
   exact absurd I h1)
 rw[<-V]at HN⊢
 have HJ:=C5Z (show j<E.M by omega)
 clear h hx hi hM hj V
 go_enter Tryz.func104,Tryz.ntmps104
 go_wp2_with (first
  |(refine C4 rfl _ rfl rfl ?_;intro z0 w0 hz hb ha;have aB:=C5Z hb;have aA:=C5Z ha;clear hz hb ha)
  |(refine B6 rfl _ rfl z0 aB.out rfl Tryz.underlying62 rfl C0 (C2 _) ?_)
  |(go_at_call 71;refine(HE.out _).mono ?_;rintro r w2 ⟨A2,m2,k2,F2,rfl,a2,hy,aE⟩;have HY:=C5Z hy;have J:=C5Z (aA.out.trans a2);have aC:=C5Z (Y.out.step J.out);clear a2 hy aE)
  |(go_at_call 101;refine(HN.out w2 aC.out).mono ?_;rintro r w3 ⟨rfl,c3,a3⟩;have aD:=C5Z c3;have X:=C5Z a3;clear c3 a3)
  |(go_at_call 98;refine(A8H aD.out (j:Int) A2 m2 k2 (secI x) (λI=>⟨j,rfl,HJ.out,(HY.out (Z.out I)).1,A2x x,A6e x,((HY.out (Z.out I)).2.past Y.out (B1.newS J.out) X.out).rd⟩)).mono ?_;rintro r w4 ⟨rfl,c4,a4⟩;have HF:=C5Z (And.intro c4 (((J.out.same (G:=CF c m) (λ_ x=>x.elim)).trans X.out).trans a4));clear c4 a4)
  |fail)
 all_goals exact bodyPost_end (results_none rfl _ _ _) rfl ⟨rfl,by have:=HF.out.1;rwa[Int.toNat_natCast]at this,HF.out.2⟩
theorem C2P(h:Cg w E c m H e)(hs:Sd H E.M):
 Calls Tryz.prog 144 #[.pointer (some ⟨c,0,none⟩)] w λr w'=>r= .returned (.int .i64 (Y7 (D5 H E.M)))/\Cg w' E c m (A1s (N7 e (Y8 (D5 H E.M))) H 1 (mapB (Z6 (D5 H E.M)))) (N7 e (Y8 (D5 H E.M)))/\B1 (CF c m) w (CF c m) w':=by
 have U:=C5Z h
 have HT:=C5Z (B48 h.rdv hs)
 have HM:=C5Z hs.hM
 obtain⟨T,hT⟩:∃T,T=D5 H E.M:=⟨_,rfl⟩
 rw[<-hT]at HT⊢
 have aE:N7 e 0=e:=by unfold N7;split<;>simp_all
 have aC:=C5Z (λ(W:World) (a:Cg W E c m H e)=>show Calls Tryz.prog 101 #[.pointer (some ⟨c,0,none⟩),.int .i64 0] W λr w'=>r= .returned (.tuple #[])/\Cg w' E c m H e/\B1 (CF c m) W (CF c m) w' by have:=U4 a 0;rwa[aE]at this)
 have HN:=C5Z (λ(W:World) (a:Cg W E c m H e)=>U4 a (Y8 T))
 obtain⟨te,X⟩:∃te,te=Y8 T:=⟨_,rfl⟩
 obtain⟨ti,aB⟩:∃ti,ti=Y7 T:=⟨_,rfl⟩
 obtain⟨Z,aA⟩:∃Z,Z=Z6 T:=⟨_,rfl⟩
 have aD:=C5Z (λ(W:World) (d:Nat) (a:Am W d T)=>C01 W d T a)
 rw[<-X,<-aB,<-aA]at aD
 rw[<-X]at HN
 rw[<-X,<-aB,<-aA]
 clear h hs aE hT X aB aA
 go_enter Tryz.func144,Tryz.ntmps144
 go_wp2_with (first
  |(go_at_call 99;refine HT.out.mono ?_;rintro r w1 ⟨d,rfl,J,I⟩;have aK:=C5Z J;have aO:=C5Z (U.out.step I);have V:=C5Z (I.newS d rfl);have aF:=C5Z (I.same (G:=CF c m) (λ_ x=>x.elim));clear J I)
  |(go_at_call 101;refine(aC.out w1 aO.out).mono ?_;rintro r w2 ⟨rfl,J,I⟩;have aP:=C5Z J;have aG:=C5Z (aF.out.trans I);have aL:=C5Z (aK.out.past U.out V.out I);clear J I aC)
  |(go_at_call 183;refine(aD.out w2 d aL.out).mono ?_;rintro r w3 ⟨rfl,J,I⟩;have aM:=C5Z J;have aQ:=C5Z (U.out.fresh aP.out V.out I);have aH:=C5Z (aG.out.freshG V.out I);clear J I)
  |(go_at_call 101;refine(HN.out w3 aQ.out).mono ?_;rintro r w4 ⟨rfl,J,I⟩;have aR:=C5Z J;have aI:=C5Z (aH.out.trans I);have aN:=C5Z (aM.out.past U.out V.out I);clear J I)
  |(go_at_call 103;refine(A6Q w4 d Z aN.out).mono ?_;rintro r w5 ⟨z,rr,rfl,J,I,h3⟩;have Y:=C5Z J;have HS:=C5Z I;have aS:=C5Z (aR.out.step h3);have aJ:=C5Z (aI.out.over h3);clear J I h3)
  |(go_at_call 98;refine(A8H aS.out 1 (some ⟨z,0,none⟩) 128 128 rr (λ_=>⟨1,rfl,by have:=HM.out;omega,rfl,Y.out.len,Y.out.lt,HS.out.rd⟩)).mono ?_;rintro r w6 ⟨rfl,J,I⟩;have HF:=C5Z (And.intro J (aJ.out.trans I));clear J I)
  |fail)
 go_ret
 refine⟨rfl,?_,HF.out.2⟩
 have:=HF.out.1
 rw[<-Y.out.mapB]at this
 exact this
theorem C2Q(h:Cg w E c m H e)(hs:Sd H E.M)(i:Int):
 Calls Tryz.prog 143 #[.pointer (some ⟨c,0,none⟩),.int .i64 i] w λr w'=>r= .returned (.tuple #[])/\Cg w' E c m (A1s (N7 e (A2b (D5 H E.M) i)) H 1 (mapB (A0b (D5 H E.M) i))) (N7 e (A2b (D5 H E.M) i))/\B1 (CF c m) w (CF c m) w':=by
 have U:=C5Z h
 have HT:=C5Z (B48 h.rdv hs)
 have HM:=C5Z hs.hM
 obtain⟨T,hT⟩:∃T,T=D5 H E.M:=⟨_,rfl⟩
 rw[<-hT]at HT⊢
 have aD:N7 e 0=e:=by unfold N7;split<;>simp_all
 have aB:=C5Z (λ(W:World) (a:Cg W E c m H e)=>show Calls Tryz.prog 101 #[.pointer (some ⟨c,0,none⟩),.int .i64 0] W λr w'=>r= .returned (.tuple #[])/\Cg w' E c m H e/\B1 (CF c m) W (CF c m) w' by have:=U4 a 0;rwa[aD]at this)
 have HN:=C5Z (λ(W:World) (a:Cg W E c m H e)=>U4 a (A2b T i))
 obtain⟨te,X⟩:∃te,te=A2b T i:=⟨_,rfl⟩
 obtain⟨Z,aA⟩:∃Z,Z=A0b T i:=⟨_,rfl⟩
 have aC:=C5Z (λ(W:World) (d:Nat) (a:Am W d T)=>C00 W d T a i)
 rw[<-X,<-aA]at aC
 rw[<-X]at HN
 rw[<-X,<-aA]
 clear h hs aD hT X aA
 go_enter Tryz.func143,Tryz.ntmps143
 go_wp2_with (first
  |(go_at_call 99;refine HT.out.mono ?_;rintro r w1 ⟨d,rfl,J,I⟩;have aJ:=C5Z J;have aN:=C5Z (U.out.step I);have V:=C5Z (I.newS d rfl);have aE:=C5Z (I.same (G:=CF c m) (λ_ x=>x.elim));clear J I)
  |(go_at_call 101;refine(aB.out w1 aN.out).mono ?_;rintro r w2 ⟨rfl,J,I⟩;have aO:=C5Z J;have aF:=C5Z (aE.out.trans I);have aK:=C5Z (aJ.out.past U.out V.out I);clear J I aB)
  |(go_at_call 182;refine(aC.out w2 d aK.out).mono ?_;rintro r w3 ⟨rfl,J,I⟩;have aL:=C5Z J;have aP:=C5Z (U.out.fresh aO.out V.out I);have aG:=C5Z (aF.out.freshG V.out I);clear J I)
  |(go_at_call 101;refine(HN.out w3 aP.out).mono ?_;rintro r w4 ⟨rfl,J,I⟩;have aQ:=C5Z J;have aH:=C5Z (aG.out.trans I);have aM:=C5Z (aL.out.past U.out V.out I);clear J I)
  |(go_at_call 103;refine(A6Q w4 d Z aM.out).mono ?_;rintro r w5 ⟨z,rr,rfl,J,I,h3⟩;have Y:=C5Z J;have HS:=C5Z I;have aR:=C5Z (aQ.out.step h3);have aI:=C5Z (aH.out.over h3);clear J I h3)
  |(go_at_call 98;refine(A8H aR.out 1 (some ⟨z,0,none⟩) 128 128 rr (λ_=>⟨1,rfl,by have:=HM.out;omega,rfl,Y.out.len,Y.out.lt,HS.out.rd⟩)).mono ?_;rintro r w6 ⟨rfl,J,I⟩;have HF:=C5Z (And.intro J (aI.out.trans I));clear J I)
  |fail)
 refine bodyPost_end (results_none rfl _ _ _) rfl ⟨rfl,?_,HF.out.2⟩
 have:=HF.out.1
 rw[<-Y.out.mapB]at this
 exact this
end
end
section
open Go.RowKit
structure CS where
 H:Nat->List Nat
 e:Int
def CS.note(s:CS)(I:Int):CS:=⟨s.H,N7 s.e I⟩
def CS.put(s:CS)(i:Nat)(l:List Nat):CS:=⟨A1s s.e s.H i l,s.e⟩
def CS.set(s:CS)(i:Nat)(x:M5):CS:=(s.note (A8b x)).put (1+i) (secI x)
noncomputable def CS.take(s:CS)(M:Nat):CS:=(s.note (Y8 (D5 s.H M))).put 1 (mapB (Z6 (D5 s.H M)))
noncomputable def CS.give(s:CS)(M:Nat)(a:Int):CS:=(s.note (A2b (D5 s.H M) a)).put 1 (mapB (A0b (D5 s.H M) a))
noncomputable def CS.place(s:CS)(M:Nat)(a:Int)(l:List Nat):CS:=
 if l=[]then(if a=0 then s else s.give M a)else if a=0 then(s.take M).put (Y7 (D5 s.H M)).toNat l else s.put a.toNat l
noncomputable def CS.placeI(s:CS)(M:Nat)(a:Int)(l:List Nat):Int:=if l=[]then 0 else if a=0 then Y7 (D5 s.H M)else a
abbrev Cs(w:World)(E:Ev)(c m:Nat)(s:CS):Prop:=Cg w E c m s.H s.e
def C1a(w:World)(c m:Nat)(v:Value)(n:Nat)(l:List Nat):Prop:=∀W,B1 (CF c m) w (CF c m) W->Rd W 1 v n (l.map u8)
theorem X8{e I:Int}(h:N7 e I=0):e=0/\I=0:=by
 unfold N7 at h
 split at h
 ·exact⟨by assumption,h⟩
 ·rename_i J;exact absurd h J
theorem B0a{T:List Bool}(h:Y8 T=0):Y7 T=(M4 T:Int)/\M4 T<T.length:=by
 unfold Y8 at h
 split at h
 ·rename_i I;exact⟨by unfold Y7;rw[if_pos I],I⟩
 ·cases h
section
variable {w w':World} {E:Ev} {c m:Nat} {s:CS}
theorem B0b(h:Cs w E c m s)(hs:Sd s.H E.M)(a:Int)(A:Option Addr)(n k:Nat)(l:List Nat)(hn:n=l.length)(hl:l=[]\/(l.length=128/\∀y∈l,y<256))(hr:C1a w c m (.slice A n k) n l)(ha:a=0\/(0<=a/\a<E.M)):
 Calls Tryz.prog 88 #[.pointer (some ⟨c,0,none⟩),.int .i64 a,.slice A n k] w λr w'=>r= .returned (.int .i64 (s.placeI E.M a l))/\Cs w' E c m (s.place E.M a l)/\B1 (CF c m) w (CF c m) w':=by
 by_cases V:l=[]
 ·have aH:n=0:=by rw[hn,V];rfl
  have Y:s.placeI E.M a l=0:=by unfold CS.placeI;rw[if_pos V]
  have Z:s.place E.M a l=if a=0 then s else s.give E.M a:=by unfold CS.place;rw[if_pos V]
  rw[Y,Z]
  subst aH
  by_cases I:a=0
  ·rw[if_pos I]
   have HC:=C5Z h
   subst I
   clear hn hl hr ha V Y Z h hs
   go_enter Tryz.func88,Tryz.ntmps88
   go_wp2
   go_ret
   exact⟨rfl,HC.out,B1.refl _ _⟩
  ·rw[if_neg I]
   have HG:=C5Z (C2Q h hs a)
   have hb:(a !=0)=true:=by rw[bne_iff_ne];exact I
   clear hn hl hr ha V Y Z h hs I
   go_enter Tryz.func88,Tryz.ntmps88
   go_wp2_with (first
    |(go_at_call 143;refine HG.out.mono ?_;rintro r w1 ⟨rfl,J,U⟩;have X:=C5Z (And.intro J U);clear J U)
    |fail)
   go_ret
   exact⟨rfl,X.out.1,X.out.2⟩
 ·obtain⟨aA,aB⟩:l.length=128/\∀y∈l,y<256:=by rcases hl with x|x;exact absurd x V;exact x
  have Y:s.placeI E.M a l=if a=0 then Y7 (D5 s.H E.M)else a:=by unfold CS.placeI;rw[if_neg V]
  have Z:s.place E.M a l=if a=0 then(s.take E.M).put (Y7 (D5 s.H E.M)).toNat l else s.put a.toNat l:=by unfold CS.place;rw[if_neg V]
  rw[Y,Z]
  obtain rfl:n=128:=by rw[hn,aA]
  by_cases I:a=0
  ·rw[if_pos I,if_pos I]
   have HT:=C5Z (C2P h hs)
   have HM:=C5Z (show(D5 s.H E.M).length=E.M from Q7 _ _)
   have HR:=C5Z hr
   have HL:=C5Z (And.intro aA aB)
   have HP:=C5Z (λ(W:World) (k':Cs W E c m (s.take E.M)) (b:B1 (CF c m) w (CF c m) W)=>A8H k' (Y7 (D5 s.H E.M)) A 128 k l (λI=>by
    obtain⟨x1,x2⟩:=X8 (show N7 s.e (Y8 (D5 s.H E.M))=0 from I)
    obtain⟨y1,y2⟩:=B0a x2
    exact⟨M4 (D5 s.H E.M),y1,by rw[HM.out]at y2;exact y2,rfl,HL.out.1,HL.out.2,HR.out W b⟩))
   obtain⟨ti,aE⟩:∃ti,ti=Y7 (D5 s.H E.M):=⟨_,rfl⟩
   rw[<-aE]at HT HP⊢
   obtain⟨s1,aC⟩:∃s1,s1=s.take E.M:=⟨_,rfl⟩
   have aG:=C5Z (show Calls Tryz.prog 144 #[.pointer (some ⟨c,0,none⟩)] w λr w'=>r= .returned (.int .i64 ti)/\Cs w' E c m s1/\B1 (CF c m) w (CF c m) w' by rw[aC];exact HT.out)
   rw[<-aC]at HP⊢
   subst I
   clear hn hl hr ha V Y Z h hs aA aB aE aC HT
   go_enter Tryz.func88,Tryz.ntmps88
   go_wp2_with (first
    |(go_at_call 144;refine aG.out.mono ?_;rintro r w1 ⟨rfl,J,U⟩;have aF:=C5Z J;have aD:=C5Z U;clear J U)
    |(go_at_call 98;refine(HP.out w1 aF.out aD.out).mono ?_;rintro r w2 ⟨rfl,J,U⟩;have X:=C5Z (And.intro J (aD.out.trans U));clear J U)
    |fail)
   go_ret
   exact⟨rfl,X.out.1,X.out.2⟩
  ·rw[if_neg I,if_neg I]
   have HP:=C5Z (A8H h a A 128 k l (λ_=>by
    rcases ha with x|x
    ·exact absurd x I
    ·exact⟨a.toNat,by omega,by omega,rfl,aA,aB,hr w (B1.refl _ _)⟩))
   have hb:(a==0)=false:=by rw[beq_eq_false_iff_ne];exact I
   clear hn hl hr ha V Y Z h hs aA aB I
   go_enter Tryz.func88,Tryz.ntmps88
   go_wp2_with (first
    |(go_at_call 98;refine HP.out.mono ?_;rintro r w2 ⟨rfl,J,U⟩;have X:=C5Z (And.intro J U);clear J U)
    |fail)
   go_ret
   exact⟨rfl,X.out.1,X.out.2⟩
end
end
section
open Go.RowKit
structure Sw (H:Nat->List Nat) (M:Nat):Prop where
 sd:Sd H M
 low:∀h,h<42->(D5 H M).getD h false=true
theorem A3M{r:List Nat}{T:List Bool}{M:Nat}(h:Rep r T)(U:T.length=M)(Y:1<=M)(Z:M<=1024):A1q r (M:Int)/\A2w r M=T:=by
 refine⟨⟨by omega,by omega,h.len,λj I W=>?_⟩,?_⟩
 ·rw[h.bit j W]
  have:T.length<=j:=by rw[U];simpa using I
  rw[List.getD_eq_getElem?_getD,List.getElem?_eq_none this];rfl
 ·apply List.ext_getElem
  ·rw[Q7,U]
  ·intro j I X
   have V:j<M:=by rw[Q7]at I;exact I
   have J:=B0W r M j V
   rw[h.has (by rw[U];exact V) (by omega)]at J
   rw[List.getD_eq_getElem?_getD,List.getElem?_eq_getElem I,List.getD_eq_getElem?_getD,List.getElem?_eq_getElem X]at J
   simpa using J
theorem Sd.rep{H:Nat->List Nat}{M:Nat}(h:Sd H M):Rep (H 1) (D5 H M)/\(D5 H M).length=M:=by
 obtain⟨I,J⟩:=h.row 1 (by have:=h.hM;omega)
 exact⟨A8z I J (by have:=h.map.2.2.2;simpa using this),Q7 _ _⟩
theorem A0t(H:Nat->List Nat)(i:Nat)(l:List Nat):P1 H i l i=l:=if_pos rfl
theorem J1(H:Nat->List Nat){i j:Nat}(l:List Nat)(h:j≠i):P1 H i l j=H j:=if_neg h
theorem Sw.map{H:Nat->List Nat}{M:Nat}{T:List Bool}(h:Sw H M)(I:∃r,Rep r T)(X:T.length=M)(Y:∀k,k<42->T.getD k false=true):Sw (P1 H 1 (mapB T)) M/\D5 (P1 H 1 (mapB T)) M=T:=by
 obtain⟨r,I⟩:=I
 rw[I.mapB]
 have W:=h.sd.hM
 obtain⟨Z,o2⟩:=A3M I X (by omega) (by omega)
 have e:D5 (P1 H 1 r) M=T:=by unfold D5;rw[A0t];exact o2
 refine⟨⟨⟨W,λi hi=>?_,by rw[A0t];exact Z,λi U V=>?_⟩,by rw[e];exact Y⟩,e⟩
 ·by_cases J:i=1
  ·rw[J,A0t];exact⟨I.len,I.lt⟩
  ·rw[J1 _ _ J];exact h.sd.row i hi
 ·rw[J1 _ _ (by omega)];exact h.sd.ino i U V
theorem Sw.blk{H:Nat->List Nat}{M a:Nat}{l:List Nat}(h:Sw H M)(X:42<=a\/a=0)(W:l.length=128)(V:∀y∈l,y<256):Sw (P1 H a l) M/\D5 (P1 H a l) M=D5 H M:=by
 have e:D5 (P1 H a l) M=D5 H M:=by unfold D5;rw[J1 _ _ (by omega)]
 refine⟨⟨⟨h.sd.hM,λi hi=>?_,by rw[J1 _ _ (by omega)];exact h.sd.map,λi J U=>?_⟩,by rw[e];exact h.low⟩,e⟩
 ·by_cases I:i=a
  ·rw[I,A0t];exact⟨W,V⟩
  ·rw[J1 _ _ I];exact h.sd.row i hi
 ·rw[J1 _ _ (by omega)];exact h.sd.ino i J U
theorem Sw.setI{H:Nat->List Nat}{M i:Nat}{x:M5}(h:Sw H M)(hi:1<=i/\i<=40)(Z:WfI x)(ok:okI x)(W:∀j,j<8->x.a j=0\/(42<=x.a j/\x.a j<M)):Sw (P1 H (1+i) (secI x)) M/\D5 (P1 H (1+i) (secI x)) M=D5 H M:=by
 have e:D5 (P1 H (1+i) (secI x)) M=D5 H M:=by unfold D5;rw[J1 _ _ (by omega)]
 refine⟨⟨⟨h.sd.hM,λk Y=>?_,by rw[J1 _ _ (by omega)];exact h.sd.map,λk U V=>?_⟩,by rw[e];exact h.low⟩,e⟩
 ·by_cases I:k=1+i
  ·rw[I,A0t];exact⟨A2x x,A6e x⟩
  ·rw[J1 _ _ I];exact h.sd.row k Y
 ·by_cases I:k=i
  ·subst I
   rw[A0t]
   obtain⟨y,hy,X⟩:=A4Z Z ok
   exact⟨y,hy,λj J=>by rw[X.a j J];exact W j J⟩
  ·rw[J1 _ _ (by omega)];exact h.sd.ino k U V
theorem A3N{T:List Bool}{n:Nat}(V:∀h,h<n->T.getD h false=true)(h:M4 T<T.length):n<=M4 T:=by
 rcases Nat.lt_or_ge (M4 T) n with W|U
 ·have I:=V _ W
  have J:(!T[M4 T])=true:=List.findIdx_getElem (w:=h)
  rw[A0J h]at I
  rw[I]at J
  cases J
 ·exact U
theorem A7q{T:List Bool}{j:Nat}(h:M4 T<T.length):(Z6 T).getD j false=if j=M4 T then true else T.getD j false:=by
 unfold Z6
 rw[A2X _ _ _ _ h]
theorem A7r{T:List Bool}{a:Int}{j:Nat}(h:0<=a/\a<T.length):(A0b T a).getD j false=if j=a.toNat then false else T.getD j false:=by
 unfold A0b
 rw[if_pos (by unfold V6;exact h),A2X _ _ _ _ (by omega)]
section
variable {s:CS} {M:Nat}
theorem C1b(h:Sw s.H M):Sw (s.take M).H M:=by
 obtain⟨U,V⟩:=h.sd.rep
 have Y:=h.sd.hM
 unfold CS.take CS.put CS.note A1s
 simp only
 split
 ·rename_i J
  obtain⟨Z,X⟩:=X8 J
  obtain⟨y1,I⟩:=B0a X
  refine(h.map (T:=Z6 (D5 s.H M)) ⟨_,U.put I (by omega)⟩ (by rw[A4t,V]) (λk W=>?_)).1
  rw[A7q I]
  split
  ·rfl
  ·exact h.low k W
 ·exact h
theorem C1c(h:Sw s.H M){a:Int}(X:42<=a/\a<M):Sw (s.give M a).H M:=by
 obtain⟨U,I⟩:=h.sd.rep
 have W:=h.sd.hM
 unfold CS.give CS.put CS.note A1s
 simp only
 split
 ·have J:0<=a/\a<((D5 s.H M).length:Int):=by rw[I];omega
  refine(h.map (T:=A0b (D5 s.H M) a) ⟨A54 (s.H 1) a.toNat,?_⟩ (by rw[A4u,I]) (λk V=>?_)).1
  ·unfold A0b
   rw[if_pos (by unfold V6;exact J)]
   exact U.drop (by omega) (by omega)
  ·rw[A7r J,if_neg (by omega)]
   exact h.low k V
 ·exact h
theorem A7s(h:Sw s.H M){a:Int}{l:List Nat}(J:a=0\/(42<=a/\a<M))(X:l=[]\/(l.length=128/\∀y∈l,y<256)):Sw (s.place M a l).H M:=by
 unfold CS.place
 split
 ·split
  ·exact h
  ·rename_i _ I
   rcases J with x|x
   ·exact absurd x I
   ·exact C1c h x
 ·rename_i Y
  obtain⟨U,V⟩:l.length=128/\∀y∈l,y<256:=by rcases X with x|x;exact absurd x Y;exact x
  split
  ·have W:=C1b h
   unfold CS.put A1s
   split
   ·rename_i I
    obtain⟨x1,Z⟩:=X8 (show N7 s.e (Y8 (D5 s.H M))=0 from I)
    obtain⟨y1,y2⟩:=B0a Z
    refine(W.blk (.inl ?_) U V).1
    rw[y1,Int.toNat_natCast]
    exact A3N h.low y2
   ·exact W
  ·rename_i I
   unfold CS.put A1s
   split
   ·refine(h.blk (.inl ?_) U V).1
    rcases J with x|x
    ·exact absurd x I
    ·omega
   ·exact h
theorem A5k(h:Sw s.H M){a:Int}{l:List Nat}(U:a=0\/(42<=a/\a<M)):s.placeI M a l=0\/(42<=s.placeI M a l/\s.placeI M a l<M)\/((s.place M a l).e≠0/\s.placeI M a l= -1):=by
 unfold CS.placeI
 split
 ·exact .inl rfl
 ·rename_i V
  split
  ·rename_i J
   obtain⟨X,Y⟩:=h.sd.rep
   by_cases I:M4 (D5 s.H M)<(D5 s.H M).length
   ·have W:Y7 (D5 s.H M)=(M4 (D5 s.H M):Int):=by unfold Y7;rw[if_pos I]
    have:=A3N h.low I
    exact .inr (.inl (by rw[W];omega))
   ·refine .inr (.inr ⟨?_,by unfold Y7;rw[if_neg I]⟩)
    unfold CS.place
    rw[if_neg V,if_pos J]
    show N7 s.e (Y8 (D5 s.H M))≠0
    intro x
    have:=(X8 x).2
    unfold Y8 at this
    rw[if_neg I]at this
    cases this
  ·rename_i J
   rcases U with x|x
   ·exact absurd x J
   ·exact .inr (.inl x)
end
end
section
open Go.RowKit
noncomputable def fl(M:Nat)(x:M5)(bs:List (List Nat))(s:CS):Nat->CS×(Nat->Int)
 |0=>(s,x.a)
 |j+1=>((fl M x bs s j).1.place M (x.a j) (bs.getD j []),λi=>if i=j then(fl M x bs s j).1.placeI M (x.a j) (bs.getD j [])else(fl M x bs s j).2 i)
noncomputable def CS.fill(s:CS)(M:Nat)(x:M5)(bs:List (List Nat)):CS:=(fl M x bs s 8).1
noncomputable def CS.fillX(s:CS)(M:Nat)(x:M5)(bs:List (List Nat)):M5:=⟨x.k,x.g,x.v,(fl M x bs s 8).2⟩
def atX(x:M5)(a:Nat->Int):M5:=⟨x.k,x.g,x.v,a⟩
theorem B8M(x:M5)(a:Nat->Int)(j:Nat)(I:j<8)(v:Int):(ic (atX x a)).setIfInBounds (3+j) (.int .i64 v)=ic (atX x (λi=>if i=j then v else a i)):=by
 have h:j=0\/j=1\/j=2\/j=3\/j=4\/j=5\/j=6\/j=7:=by omega
 rcases h with rfl|rfl|rfl|rfl|rfl|rfl|rfl|rfl<;>rfl
theorem B8N(x:M5)(j:Nat)(I:j<8):(ic x)[3+j]? =some (.int .i64 (x.a j)):=by
 have h:j=0\/j=1\/j=2\/j=3\/j=4\/j=5\/j=6\/j=7:=by omega
 rcases h with rfl|rfl|rfl|rfl|rfl|rfl|rfl|rfl<;>rfl
def C2S(a:Nat->Int):List Value:=[.int .i64 (a 0),.int .i64 (a 1),.int .i64 (a 2),.int .i64 (a 3),.int .i64 (a 4),.int .i64 (a 5),.int .i64 (a 6),.int .i64 (a 7)]
theorem B66{w:World}{z:Nat}{t:TypeId}{x:M5}(h:C3 w z t (ic x)):w.rangeAt z 3 (C2S x.a):=λj v hv=>by
 have I:j<8:=(List.getElem?_eq_some_iff.1 hv).1
 rw[h.cell,B8N x j I,<-hv]
 have h:j=0\/j=1\/j=2\/j=3\/j=4\/j=5\/j=6\/j=7:=by omega
 rcases h with rfl|rfl|rfl|rfl|rfl|rfl|rfl|rfl<;>rfl
theorem B67:(Tryz.prog.info? 60).map (·.size)=some 8:=by kernel_rfl
def A0f(bs:List (List Nat)):Prop:=∀r∈bs,r.length=128/\∀y∈r,y<256
theorem A0f.at_{bs:List (List Nat)}(h:A0f bs)(j:Nat):bs.getD j []=[]\/((bs.getD j []).length=128/\∀y∈bs.getD j [],y<256):=by
 rw[List.getD_eq_getElem?_getD]
 cases hq:bs[j]? with
 |none=>exact .inl rfl
 |some r=>exact .inr (h r (List.mem_of_getElem? hq))
theorem A40{M:Nat}{x:M5}{bs:List (List Nat)}{s:CS}(h:Sw s.H M)(J:A0f bs)(I:∀j,j<8->x.a j=0\/(42<=x.a j/\x.a j<M)):∀j,j<=8->Sw (fl M x bs s j).1.H M
 |0,_=>h
 |j+1,hj=>A7s (A40 h J I j (by omega)) (I j (by omega)) (J.at_ j)
def A2e(w:World)(c m:Nat)(v:Value)(bs:List (List Nat)):Prop:=∃cs:List Value,cs.length=bs.length/\∀W,B1 (CF c m) w (CF c m) W->Rd W 1 v bs.length cs/\∀(i:Nat) (b:Value) (r:List Nat),cs[i]? =some b->bs[i]? =some r->Rd W 1 b r.length (r.map u8)
theorem A2e.at_{w:World}{c m:Nat}{A:Option Addr}{n k j:Nat}{bs:List (List Nat)}{r:List Nat}(h:A2e w c m (.slice A n k) bs)(J:bs[j]? =some r):∃A' q,(∃b o,A=some ⟨b,o,none⟩/\∀W,B1 (CF c m) w (CF c m) W->W.cell? ⟨b,o+j,none⟩=some (.slice A' r.length q))/\∀W,B1 (CF c m) w (CF c m) W->Rd W 1 (.slice A' r.length q) r.length (r.map u8):=by
 obtain⟨cs,hl,I⟩:=h
 have aA:j<bs.length:=(List.getElem?_eq_some_iff.1 J).1
 have U:cs[j]? =some cs[j]:=List.getElem?_eq_getElem (by omega)
 obtain⟨A',q,e,_⟩:=((I w (B1.refl _ _)).2 j _ r U J).form
 refine⟨A',q,?_,λW a=>by have:=(I W a).2 j _ r U J;rwa[e]at this⟩
 have Z:n=bs.length:=by
  obtain⟨A0,c0,e0,_⟩:=(I w (B1.refl _ _)).1.form
  injection e0
 subst Z
 obtain⟨b,o,V,_,_⟩:=(I w (B1.refl _ _)).1.cells (by omega) (by decide)
 refine⟨b,o,V,λW a=>?_⟩
 obtain⟨b',o',X,_,Y⟩:=(I W a).1.cells (by omega) (by decide)
 rw[V]at X
 cases X
 have:=Y j _ U
 rwa[e]at this
theorem A2e.nil(w:World)(c m:Nat):A2e w c m (.slice none 0 0) []:=⟨[],rfl,λW _=>⟨(Sl.nil W 54 1).rd,λi b r h=>by simp at h⟩⟩
theorem A2e.later{w V:World}{c m:Nat}{v:Value}{bs:List (List Nat)}(h:A2e w c m v bs)(U:B1 (CF c m) w (CF c m) V):A2e V c m v bs:=by
 obtain⟨cs,I,J⟩:=h
 exact⟨cs,I,λW a=>J W (U.trans a)⟩
def FlQ(w:World)(E:Ev)(c m z:Nat)(x:M5)(bs:List (List Nat))(s:CS)(I:Nat)(t12:Value)(wr:World):Prop:=
 ∃j:Nat,t12= .int .i64 (j:Int)/\j<=8/\Cs wr E c m (fl E.M x bs s j).1/\C3 wr z 62 (ic (atX x (fl E.M x bs s j).2))/\C3 wr I 62 (ic L3)/\B1 (CF c m) w (CF c m) wr
section
variable {w w':World} {E:Ev} {c m:Nat} {s:CS}
theorem A3w{J:Func}{p:Tmp}{ty:TypeId}(h:J.results= #[.cell p ty])(I:Array Value)(w:World){z:Nat}{t:TypeId}{C:Array Value}{d:TypeDesc}(W:I.getD p undef= .pointer (some ⟨z,0,none⟩))(U:C3 w z t C)
 (X:Tryz.prog.underlying ty=some d) (V:d.isRow=true) (hi:(Tryz.prog.info? ty).map (·.size)=some C.size):(results J I).run Tryz.prog w= .ok (.agg C) w:=by
 have:=A16 h I Tryz.prog w W (C3.range U) X V (by rw[hi,Array.length_toList])
 rwa[Array.toArray_toList]at this
theorem B3z(h:Cs w E c m s)(hs:Sw s.H E.M)(x:M5)(hx:∀j,j<8->x.a j=0\/(42<=x.a j/\x.a j<E.M))(A:Option Addr)(n k:Nat)(bs:List (List Nat))(hn:n=bs.length)(U:A0f bs)(Z:bs.length<=100)(hr:A2e w c m (.slice A n k) bs):
 Calls Tryz.prog 93 #[.pointer (some ⟨c,0,none⟩),.agg (ic x),.slice A n k] w λr w'=>r= .returned (.agg (ic (s.fillX E.M x bs)))/\Cs w' E c m (s.fill E.M x bs)/\B1 (CF c m) w (CF c m) w':=by
 have HC:=C5Z h
 have HX:=C5Z hx
 have HN:=C5Z hn
 have HB:=C5Z U
 have HR:=C5Z hr
 have aF:=C5Z (A40 hs U hx)
 have bY:(n:Int)<=100:=by omega
 have bM:=C5Z (λ(j:Nat) (hj:j<8) (w:World)=>show(Instr.index 60 (.agg (C2S x.a).toArray) (.int .i64 (j:Int))).run Tryz.prog w= .ok (.int .i64 (x.a j)) w from A9C x.a j hj w)
 have aT:=C5Z (λ(d:Nat) (hd:w.heap.size<=d)=>h.apart (G:=L6 d) (λk hk=>by unfold L6 at hk;omega))
 clear h hx hn U hr hs Z
 go_enter Tryz.func93,Tryz.ntmps93
 go_wp2_with (first
  |(refine C4 rfl _ rfl rfl ?_;intro I w1 hz U J;have aI:=C5Z hz;have aR:=C5Z U;have aP:=C5Z J;clear hz U J)
  |(refine B9 rfl rfl C8 ?_;intro z6 w2 hz U J;have aJ:=C5Z (Nat.le_trans aP.out.size hz);have bI:=C5Z U;have aS:=C5Z (aR.out.over J);have bO:=C5Z (show I≠z6 fromλe=>by have:=aR.out.lt;omega);have aQ:=C5Z (aP.out.trans J);clear hz U J)
  |(refine wpList_load_mid rfl 60 (.tmp 10) rfl I 3 rfl (C2S x.a) _ (B66 aS.out) Tryz.underlying60 rfl (by rw[B67];rfl) ?_)
  |fail)
 go_loopw [12] (FlQ w E c m I x bs s z6) (λt _=>8-(intOf t).toNat)
 case atStart=>exact⟨0,rfl,by omega,HC.out.step aQ.out,aS.out,bI.out,aQ.out.same (λ_ x=>x.elim)⟩
 case round=>
  obtain⟨j,rfl,hj,hc,Y,aB,J⟩:=hrel
  by_cases aC:j<8
  ·have bV:=bM.out j aC
   have bX:(j:Int)<8:=by omega
   have bA:=HX.out j aC
   have bG:=HB.out.at_ j
   have aO:=aF.out j (by omega)
   obtain⟨X,aN⟩:∃X,X=(fl E.M x bs s j).1:=⟨_,rfl⟩
   obtain⟨aj,aK⟩:∃aj,aj=(fl E.M x bs s j).2:=⟨_,rfl⟩
   have bD:fl E.M x bs s (j+1)=(X.place E.M (x.a j) (bs.getD j []),λi=>if i=j then X.placeI E.M (x.a j) (bs.getD j [])else aj i):=by rw[aN,aK];rfl
   rw[<-aN]at hc aO
   rw[<-aK]at Y
   have aG:=C5Z bD
   have aF:=C5Z aO
   have aV:=C5Z hc
   have bT:=C5Z Y
   have bU:=C5Z aB
   have aU:=C5Z J
   have aX:=C5Z aC
   have aW:=C5Z bA
   have aH:=C5Z bG
   have aD:=C5Z (show∀V,Cs V E c m (X.place E.M (x.a j) (bs.getD j []))->B1 (CF c m) wr (CF c m) V->V.cell? ⟨I,3+j,none⟩=some (.int .i64 (aj j))/\V.frozen? ⟨I,3+j,none⟩=false/\FlQ w E c m I x bs s z6 (.int .i64 ((j+1:Nat):Int)) (V.setCell ⟨I,3+j,none⟩ (.int .i64 (X.placeI E.M (x.a j) (bs.getD j []))))fromλV c5 a5=>by
    have b5:=Y.keep (a5.block I Y.lt (λhk=>aT.out I aI.out I hk rfl))
    have b6:=aB.keep (a5.block z6 aB.lt (λhk=>aT.out z6 aJ.out z6 hk rfl))
    have sc:B1 (L6 I) V (L6 I) (V.setCell ⟨I,3+j,none⟩ (.int .i64 (X.placeI E.M (x.a j) (bs.getD j [])))):=B1.setCell (F:=L6 I) (F':=L6 I) (p:=⟨I,3+j,none⟩) (B1.refl _ _) (.inl rfl) _
    refine⟨by rw[b5.cell,B8N _ j aC];rfl,b5.frozen _,j+1,rfl,by omega,?_,?_,b6.far1 sc (λe=>bO.out e.symm),(J.trans a5).freshG aI.out sc⟩
    ·rw[aG.out];exact HC.out.fresh c5 aI.out sc
    ·rw[aG.out]
     have:=b5.set_ (3+j) (.int .i64 (X.placeI E.M (x.a j) (bs.getD j [])))
     rw[B8M x aj j aC]at this
     exact this)
   obtain⟨l,Z⟩:∃l,l=bs.getD j []:=⟨_,rfl⟩
   rw[<-Z]at aH aD
   clear hc Y aB J bA bG aO bD aN aK aG
   by_cases aL:j<n
   ·have bS:(j:Int)<(n:Int):=by omega
    have aZ:j<bs.length:=by rw[<-HN.out];exact aL
    have bB:bs[j]? =some l:=by rw[Z,List.getD_eq_getElem?_getD,List.getElem?_eq_getElem aZ];rfl
    obtain⟨A',q,⟨b,o,rfl,aY⟩,bF⟩:=HR.out.at_ bB
    have bR:=aY wr aU.out
    have aA:=C5Z (B0b aV.out aF.out.sd (x.a j) A' l.length q l rfl aH.out (λW a=>bF W (aU.out.trans a)) (by rcases aW.out with e|e;exact .inl e;exact .inr ⟨by omega,e.2⟩))
    obtain⟨ll,bC⟩:∃ll,ll=l.length:=⟨_,rfl⟩
    rw[<-bC]at bR aA
    obtain⟨pi,aE⟩:∃pi,pi=X.placeI E.M (x.a j) l:=⟨_,rfl⟩
    rw[<-aE]at aA aD
    clear aZ bB aY bF bC aE Z aL
    go_wp2_with (first
     |(go_at_call 88;refine aA.out.mono ?_;rintro r V ⟨rfl,h1,h2⟩;obtain⟨d5,f5,h5⟩:=aD.out V h1 h2;have H5:=C5Z h5;clear h1 h2 h5)
     |fail)
    exact⟨by have:=H5.out;simpa using this,by have:=aX.out;simp[intOf]<;>omega⟩
   ·have aM:l=[]:=by rw[Z,List.getD_eq_getElem?_getD,List.getElem?_eq_none (by rw[<-HN.out];omega)];rfl
    have aA:=C5Z (B0b aV.out aF.out.sd (x.a j) none 0 0 l (by rw[aM];rfl) aH.out (λW a=>by rw[aM];exact(Sl.nil W 5 1).rd) (by rcases aW.out with e|e;exact .inl e;exact .inr ⟨by omega,e.2⟩))
    obtain⟨pi,aE⟩:∃pi,pi=X.placeI E.M (x.a j) l:=⟨_,rfl⟩
    rw[<-aE]at aA aD
    have bS:¬(j:Int)<(n:Int):=by omega
    clear aM Z aE aL
    go_wp2_with (first
     |(go_at_call 88;refine aA.out.mono ?_;rintro r V ⟨rfl,h1,h2⟩;obtain⟨d5,f5,h5⟩:=aD.out V h1 h2;have H5:=C5Z h5;clear h1 h2 h5)
     |fail)
    exact⟨by have:=H5.out;simpa using this,by have:=aX.out;simp[intOf]<;>omega⟩
  ·obtain rfl:j=8:=by omega
   have HF:=C5Z (show Cs wr E c m (s.fill E.M x bs)/\B1 (CF c m) w (CF c m) wr from⟨hc,J⟩)
   have bP:=C5Z (show C3 wr I 62 (ic (s.fillX E.M x bs))from Y)
   have bQ:=C5Z aB
   clear hc Y aB J aC hj
   go_wp2_with (first
    |(refine B6 rfl _ rfl I bP.out rfl Tryz.underlying62 rfl C0 (C2 _) ?_)
    |(refine B7 rfl _ _ rfl z6 bQ.out rfl rfl C0 (C2 _) (C2 _) (D6 _) ?_;intro w7 U J;have bJ:=C5Z U;have bK:=C5Z (HC.out.fresh HF.out.1 aJ.out J);have bH:=C5Z (HF.out.2.freshG aJ.out J);clear U J)
    |fail)
   exact bodyPost_ret (A3w rfl _ _ rfl bJ.out Tryz.underlying62 rfl (by rw[C0];rfl)) rfl ⟨rfl,bK.out,bH.out⟩
end
end
end Go.Proofs.YtbefmjiclpobjaaGreat
