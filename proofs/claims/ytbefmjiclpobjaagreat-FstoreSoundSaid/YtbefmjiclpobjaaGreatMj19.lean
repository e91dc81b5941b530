import Derived.Test.YtbefmjiclpobjaaGreatMj18
import Derived.Test.YtbefmjiclpobjaaGreatMj11
namespace Go.Proofs.YtbefmjiclpobjaaGreat
set_option maxHeartbeats 3200000
set_option maxRecDepth 3000
section
open Go.RowKit Go.Maps
section
variable {ops:Array Oper} {o:Oper} {a:Act} {w:World} {Q:Exit->Act->World->Prop} {K:Act->World->Prop} {E:Prop}
theorem B8Y(U:o.guard=none)(x:Operand)(W:o.op= .load 173 x)(b I:Nat)(l:List Nat)(V:l.length=128)(J:w.rangeAt b I (l.map u8))(X:a.eval x= .pointer (some ⟨b,I,none⟩))
 (h:K (a.put o.dst (.agg (l.map u8).toArray)) w):if Region.wanted o (yielded ops a.tmps)=true then Oper.wp Tryz.prog o a w K Q else E:=by
 rw[if_pos (by simp[Region.wanted,U])]
 exact wp_load_mid 173 x W b I X (l.map u8) _ J Tryz.underlying173 rfl (by rw[V3,List.length_map,V]) h
theorem C1m(I:o.guard=none)(x:Operand)(J:o.op= .sliceToArrayPointer 173 x)(A:Option Addr)(c:Nat)(U:a.eval x= .slice A 128 c)
 (h:K (a.put o.dst (.pointer A)) w):if Region.wanted o (yielded ops a.tmps)=true then Oper.wp Tryz.prog o a w K Q else E:=by
 rw[if_pos (by simp[Region.wanted,I])]
 unfold Oper.wp execOp
 simp[J,U,Instr.arrayAt,run_underlying Tryz.underlying173,Result.andThen]
 exact h
theorem C1n(Y:o.guard=none)(m x v:Operand)(ho:o.op=Op.mapUpdate 86 m x v)(b N i:Nat)(A:Nat->Option (List Nat))(l:List Nat)(X:Mp w b N A)(Z:a.eval m= .map (some b))(hx:a.eval x= .int .i64 (i:Int))(hv:a.eval v= .agg (l.map u8).toArray)(hi:i<N)(hN:N<=4096)
 (hK:∀w',Mp w' b N (Q9 A i l)->w.grownBy w' (some b)->K (a.put o.dst undef) w'):if Region.wanted o (yielded ops a.tmps)=true then Oper.wp Tryz.prog o a w K Q else E:=by
 rw[if_pos (by simp[Region.wanted,Y])]
 obtain⟨D,h,d⟩:=X
 obtain⟨w',aA,r1,r2⟩:=h.update N7 Tryz.underlying86 (by have:=A6L A N;unfold maxLen;omega) (A37 (i:=i) (by omega)) (A1H l)
 unfold Oper.wp
 simp[execOp,ho,Z,hx,hv,aA,Result.andThen]
 refine hK w' ⟨_,?_,d.put hi⟩ r2
 obtain⟨U,c,V,W,h3,J⟩:=r1
 refine⟨U,c,V,W,?_,J⟩
 have I:=(d.put (l:=l) hi).size
 rw[J]at I
 rw[<-I]
 simp[Maps.size,length_sorted]
end
section
variable {w w':World} {E:Ev} {c m:Nat} {H:Nat->List Nat} {e:Int} {F':Nat->Prop}
theorem A8Q(h:Cg w E c m H e)(i:Int)(A0:Option Addr)(n0 k0:Nat)(x:List Nat)(h0:e=0->∃j:Nat,i=(j:Int)/\j<E.M/\n0=128/\x.length=128/\(∀y∈x,y<256)/\Rd w 1 (.slice A0 128 k0) 128 (x.map u8)):
 Calls Tryz.prog 98 #[.pointer (some ⟨c,0,none⟩),.int .i64 i,.slice A0 n0 k0] w λr w'=>r= .returned (.tuple #[])/\Cg w' E c m (A1g e H i.toNat x) e/\B0 (CF c m) w (CF c m) w':=by
 have c2:w.cell? ⟨c,3,none⟩=some (.int .i64 e):=h.blk.cell 3
 by_cases J:e=0
 ·obtain⟨j,rfl,hj,rfl,hl,h8,hr⟩:=h0 J
  subst J
  have V:A1g 0 H (j:Int).toNat x=N6 H j x:=by unfold A1g;rw[if_pos rfl,Int.toNat_natCast]
  rw[V]
  obtain⟨A,h1,h2,h3,h4⟩:=h.ex
  obtain⟨b,o,rfl,hb,hc⟩:=hr.cells (by decide) (by decide)
  have HJ:=C6x hj
  have aD:=C6x (show E.M<=4096 by have:=h.so.vu.hn;unfold Ev.M;omega)
  have HL:=C6x hl
  have aF:=C6x (show w.drew.rangeAt b o (x.map u8)from hc)
  have aE:=C6x (show Mp w.drew m E.M A from h1)
  have W:=C6x (show w.cell? ⟨c,1,none⟩=some (.map (some m))from h.blk.cell 1)
  have X:=C6x (show w.drew.cell? ⟨c,1,none⟩=some (.map (some m))from h.blk.cell 1)
  have aC:=C6x (show∀I,Mp I m E.M (Q9 A j x)->w.drew.grownBy I (some m)->I.cell? ⟨c,1,none⟩=some (.map (some m))/\Cg I E c m (N6 H j x) 0/\B0 (CF c m) w (CF c m) I fromλI Z U=>by
   have ha:B0 (CF c m) w (CF c m) I:=(B0.refl (CF c m) w).drew.grown U (λk e=>.inl (.inr (Option.some.inj e).symm))
   have aB:=h.blk.keep (U.block c h.blk.lt (λe=>h.ne (Option.some.inj e)))
   refine⟨aB.cell 1,⟨h.so_far ha,⟨Q9 A j x,Z,h2.set hj hl h8,by rw[C1l,h3],λi hi=>?_⟩,aB,h.sc,h.sm⟩,ha⟩
   have:=h4 i hi
   unfold Q9
   split
   ·rfl
   ·exact this)
  clear h0 V h1 h2 h3 h4 hb hc hr hj hl h8 h
  go_enter Tryz.func98,Tryz.ntmps98
  go_upto_region 1 with(fail)
  refine D6 (S:=(λw'=>w'.cell? ⟨c,1,none⟩=some (.map (some m)))) (by with_reducible first|exact Y.out|exact X.out|exact W.out) (λhH=>?_)
  refine C6y 0 rfl ?_
  refine C6y 1 rfl ?_
  refine C6y 2 rfl ?_
  refine C6y 3 rfl ?_
  refine C6y 4 rfl ?_
  refine C6y 5 rfl ?_
  refine C6y 6 rfl ?_
  refine C6z 7 rfl (λK hK=>?_)
  refine C1m rfl _ rfl (some ⟨b,o,none⟩) k0 rfl ?_
  refine C60 hK (by with_reducible first|exact Y.out|exact X.out|exact W.out) ?_
  clear hK K hH
  intro hH
  try simp only[Act.put,sA,sB,sC]
  refine C6z 8 rfl (λK hK=>?_)
  refine B8Y rfl _ rfl b o x HL.out aF.out rfl ?_
  refine C60 hK (by with_reducible first|exact Y.out|exact X.out|exact W.out) ?_
  clear hK K hH
  intro hH
  try simp only[Act.put,sA,sB,sC]
  refine C6z 9 rfl (λK hK=>?_)
  refine C1n rfl _ _ _ rfl m E.M j A x aE.out rfl rfl rfl HJ.out aD.out ?_
  intro I Z U
  have aA:=C6x (aC.out I Z U)
  have Y:=C6x (aA.out.1)
  clear Z U
  refine C60 hK (by with_reducible first|exact Y.out|exact X.out|exact W.out) ?_
  clear hK K hH
  intro hH
  try simp only[Act.put]
  refine wpAnyH_done (by kernel_rfl) ?_ _
  go_wp2_with fail
  exact bodyPost_end (results_none rfl _ _ _) rfl ⟨rfl,aA.out.2⟩
 ·have V:A1g e H i.toNat x=H:=by unfold A1g;rw[if_neg J]
  rw[V]
  have HC:=C6x h
  have hb:(e==0)=false:=by rw[beq_eq_false_iff_ne];exact J
  clear h h0 V J
  go_enter Tryz.func98,Tryz.ntmps98
  go_wp2
  exact bodyPost_end (results_none rfl _ _ _) rfl ⟨rfl,HC.out,B0.refl _ _⟩
end
end
section
open Go.RowKit
theorem B0.freshG{G F':Nat->Prop}{w w1 w2:World}{z:Nat}(h:B0 G w G w1)(J:w.heap.size<=z)(k:B0 (J0 z) w1 F' w2):B0 G w G w2:=
 ⟨k.os.trans h.os,k.tape.trans h.tape,k.output.trans h.output,Nat.le_trans h.size k.size,λi hi I=>(k.block i (Nat.lt_of_lt_of_le hi h.size) (λe=>by unfold J0 at e;omega)).trans (h.block i hi I),λ_ x=>.inl x⟩
open Classical in
noncomputable def mapB(T:List Bool):List Nat:=if h:∃r,Rep r T then h.choose else []
theorem Rep.mapB{r:List Nat}{T:List Bool}(h:Rep r T):mapB T=r:=by
 unfold Go.Proofs.YtbefmjiclpobjaaGreat.mapB
 rw[dif_pos ⟨r,h⟩]
 exact(Exists.choose_spec (⟨r,h⟩:∃r,Rep r T)).inj h
def A8h(x:L6):Int:=if okI x then 0 else 2
section
variable {w w' w0 w1 w2:World} {E:Ev} {c m:Nat} {H H0:Nat->List Nat} {e e0:Int} {F' F:Nat->Prop}
theorem So.bd(h:So w E):(∀k,E.U k->k<w.heap.size)/\E.o<w.heap.size/\E.mo<w.heap.size:=⟨λk I=>h.vu.rs.bd k I,h.blk.lt,h.vu.mp.lt⟩
theorem Cg.freshA{G:Nat->Prop}(U:Cg w0 E c m H0 e0)(h:Cg w1 E c m H e)(hd:∀k,G k->w0.heap.size<=k)(ha:B0 G w1 F w2):Cg w2 E c m H e:=by
 obtain⟨X,Y,Z⟩:=U.so.bd
 obtain⟨b4,b5⟩:=U.lt
 have J:B0 G w1 G w2:=ha.same (λ_ x=>x)
 have I:∀k,k<w0.heap.size->¬G k:=λk W hg=>by have:=hd k hg;omega
 obtain⟨A,V,h2,h3,h4⟩:=h.ex
 exact⟨h.so.far J (λk W hu=>I k (X k hu) W) (I _ Y) (I _ Z),⟨A,V.keep (J.block m V.lt (I _ b5)),h2,h3,h4⟩,h.blk.keep (J.block c h.blk.lt (I _ b4)),h.sc,h.sm⟩
theorem Cg.fresh{d:Nat}(I:Cg w0 E c m H0 e0)(h:Cg w1 E c m H e)(V:w0.heap.size<=d)(J:B0 (J0 d) w1 F w2):Cg w2 E c m H e:=
 Cg.freshA I h (G:=J0 d) (λk U=>by unfold J0 at U;omega) J
theorem Cg.apart(I:Cg w0 E c m H0 e0){G:Nat->Prop}(J:∀k,G k->w0.heap.size<=k):Sep (CF c m) G:=λk V U=>by
 obtain⟨W,X⟩:=I.lt
 have:=J k U
 rcases V with rfl|rfl<;>omega
theorem Sl.past{t:TypeId}{I n:Nat}{v:Value}{J:List Value}(s:Sl w1 F t I v n J)(U:Cg w0 E c m H0 e0)(hF:∀k,F k->w0.heap.size<=k)(V:B0 (CF c m) w1 F' w2):Sl w2 F t I v n J:=
 s.far (V.same (λ_ x=>x)) (U.apart hF)
theorem B0.newS{w w1:World}{F:Nat->Prop}(h:B0 B5 w F w1):∀k,F k->w.heap.size<=k:=λk I=>by
 rcases h.into k I with x|x
 ·exact x.elim
 ·exact x
theorem Am.past{d:Nat}{T:List Bool}(s:Am w1 d T)(I:Cg w0 E c m H0 e0)(V:w0.heap.size<=d)(J:B0 (CF c m) w1 F' w2):Am w2 d T:=
 s.far J (λU=>I.apart (G:=J0 d) (λk e=>by unfold J0 at e;omega) d U rfl)
theorem A7s(h:Cg w E c m H e)(i:Nat)(hi:i<=40)(x:L6)(hx:WfI x)(hM:46<=E.M):
 Calls Tryz.prog 104 #[.pointer (some ⟨c,0,none⟩),.int .i64 (i:Int),.agg (ic x)] w λr w'=>r= .returned (.tuple #[])/\Cg w' E c m (A1g (M8 e (A8h x)) H (1+i) (secI x)) (M8 e (A8h x))/\B0 (CF c m) w (CF c m) w':=by
 have Y:=C6x h
 have HE:=C6x (λW=>A54 x hx W)
 have HN:=C6x (λ(W:World) (a:Cg W E c m H e)=>T6 a (A8h x))
 have HI:=C6x hi
 have HM:=C6x hM
 obtain⟨j,hj⟩:∃j,j=1+i:=⟨_,rfl⟩
 have hw:IntKind.i64.wrap (1+(i:Int))=(j:Int):=by rw[IntKind.wrap_i64];omega
 rw[<-hj]
 obtain⟨U,V⟩:∃U,U=M8 e (A8h x):=⟨_,rfl⟩
 have Z:=C6x (show U=0->okI x by
  intro I
  rw[V]at I
  unfold M8 A8h at I
  split at I
  ·split at I
   ·assumption
   ·cases I
  ·rename_i h1
   exact absurd I h1)
 rw[<-V]at HN⊢
 have HJ:=C6x (show j<E.M by omega)
 clear h hx hi hM hj V
 go_enter Tryz.func104,Tryz.ntmps104
 go_wp2_with (first
  |(refine C5 rfl _ rfl rfl ?_;intro z0 w0 hz hb ha;have aB:=C6x hb;have aA:=C6x ha;clear hz hb ha)
  |(refine B6 rfl _ rfl z0 aB.out rfl Tryz.underlying62 rfl C0 (C2 _) ?_)
  |(go_at_call 71;refine(HE.out _).mono ?_;rintro r w2 ⟨A2,m2,k2,F2,rfl,a2,hy,aE⟩;have HY:=C6x hy;have J:=C6x (aA.out.trans a2);have aC:=C6x (Y.out.step J.out);clear a2 hy aE)
  |(go_at_call 101;refine(HN.out w2 aC.out).mono ?_;rintro r w3 ⟨rfl,c3,a3⟩;have aD:=C6x c3;have X:=C6x a3;clear c3 a3)
  |(go_at_call 98;refine(A8Q aD.out (j:Int) A2 m2 k2 (secI x) (λI=>⟨j,rfl,HJ.out,(HY.out (Z.out I)).1,A2o x,A6g x,((HY.out (Z.out I)).2.past Y.out (B0.newS J.out) X.out).rd⟩)).mono ?_;rintro r w4 ⟨rfl,c4,a4⟩;have HF:=C6x (And.intro c4 (((J.out.same (G:=CF c m) (λ_ x=>x.elim)).trans X.out).trans a4));clear c4 a4)
  |fail)
 all_goals exact bodyPost_end (results_none rfl _ _ _) rfl ⟨rfl,by have:=HF.out.1;rwa[Int.toNat_natCast]at this,HF.out.2⟩
theorem C3d(h:Cg w E c m H e)(hs:Sd H E.M):
 Calls Tryz.prog 144 #[.pointer (some ⟨c,0,none⟩)] w λr w'=>r= .returned (.int .i64 (Y0 (D3 H E.M)))/\Cg w' E c m (A1g (M8 e (Y1 (D3 H E.M))) H 1 (mapB (Y9 (D3 H E.M)))) (M8 e (Y1 (D3 H E.M)))/\B0 (CF c m) w (CF c m) w':=by
 have U:=C6x h
 have HT:=C6x (B4M h.rdv hs)
 have HM:=C6x hs.hM
 obtain⟨T,hT⟩:∃T,T=D3 H E.M:=⟨_,rfl⟩
 rw[<-hT]at HT⊢
 have aE:M8 e 0=e:=by unfold M8;split<;>simp_all
 have aC:=C6x (λ(W:World) (a:Cg W E c m H e)=>show Calls Tryz.prog 101 #[.pointer (some ⟨c,0,none⟩),.int .i64 0] W λr w'=>r= .returned (.tuple #[])/\Cg w' E c m H e/\B0 (CF c m) W (CF c m) w' by have:=T6 a 0;rwa[aE]at this)
 have HN:=C6x (λ(W:World) (a:Cg W E c m H e)=>T6 a (Y1 T))
 obtain⟨te,X⟩:∃te,te=Y1 T:=⟨_,rfl⟩
 obtain⟨ti,aB⟩:∃ti,ti=Y0 T:=⟨_,rfl⟩
 obtain⟨Z,aA⟩:∃Z,Z=Y9 T:=⟨_,rfl⟩
 have aD:=C6x (λ(W:World) (d:Nat) (a:Am W d T)=>C0F W d T a)
 rw[<-X,<-aB,<-aA]at aD
 rw[<-X]at HN
 rw[<-X,<-aB,<-aA]
 clear h hs aE hT X aB aA
 go_enter Tryz.func144,Tryz.ntmps144
 go_wp2_with (first
  |(go_at_call 99;refine HT.out.mono ?_;rintro r w1 ⟨d,rfl,J,I⟩;have aK:=C6x J;have aO:=C6x (U.out.step I);have V:=C6x (I.newS d rfl);have aF:=C6x (I.same (G:=CF c m) (λ_ x=>x.elim));clear J I)
  |(go_at_call 101;refine(aC.out w1 aO.out).mono ?_;rintro r w2 ⟨rfl,J,I⟩;have aP:=C6x J;have aG:=C6x (aF.out.trans I);have aL:=C6x (aK.out.past U.out V.out I);clear J I aC)
  |(go_at_call 183;refine(aD.out w2 d aL.out).mono ?_;rintro r w3 ⟨rfl,J,I⟩;have aM:=C6x J;have aQ:=C6x (U.out.fresh aP.out V.out I);have aH:=C6x (aG.out.freshG V.out I);clear J I)
  |(go_at_call 101;refine(HN.out w3 aQ.out).mono ?_;rintro r w4 ⟨rfl,J,I⟩;have aR:=C6x J;have aI:=C6x (aH.out.trans I);have aN:=C6x (aM.out.past U.out V.out I);clear J I)
  |(go_at_call 103;refine(A6V w4 d Z aN.out).mono ?_;rintro r w5 ⟨z,rr,rfl,J,I,h3⟩;have Y:=C6x J;have HS:=C6x I;have aS:=C6x (aR.out.step h3);have aJ:=C6x (aI.out.over h3);clear J I h3)
  |(go_at_call 98;refine(A8Q aS.out 1 (some ⟨z,0,none⟩) 128 128 rr (λ_=>⟨1,rfl,by have:=HM.out;omega,rfl,Y.out.len,Y.out.lt,HS.out.rd⟩)).mono ?_;rintro r w6 ⟨rfl,J,I⟩;have HF:=C6x (And.intro J (aJ.out.trans I));clear J I)
  |fail)
 go_ret
 refine⟨rfl,?_,HF.out.2⟩
 have:=HF.out.1
 rw[<-Y.out.mapB]at this
 exact this
theorem C3e(h:Cg w E c m H e)(hs:Sd H E.M)(i:Int):
 Calls Tryz.prog 143 #[.pointer (some ⟨c,0,none⟩),.int .i64 i] w λr w'=>r= .returned (.tuple #[])/\Cg w' E c m (A1g (M8 e (A1T (D3 H E.M) i)) H 1 (mapB (Z5 (D3 H E.M) i))) (M8 e (A1T (D3 H E.M) i))/\B0 (CF c m) w (CF c m) w':=by
 have U:=C6x h
 have HT:=C6x (B4M h.rdv hs)
 have HM:=C6x hs.hM
 obtain⟨T,hT⟩:∃T,T=D3 H E.M:=⟨_,rfl⟩
 rw[<-hT]at HT⊢
 have aD:M8 e 0=e:=by unfold M8;split<;>simp_all
 have aB:=C6x (λ(W:World) (a:Cg W E c m H e)=>show Calls Tryz.prog 101 #[.pointer (some ⟨c,0,none⟩),.int .i64 0] W λr w'=>r= .returned (.tuple #[])/\Cg w' E c m H e/\B0 (CF c m) W (CF c m) w' by have:=T6 a 0;rwa[aD]at this)
 have HN:=C6x (λ(W:World) (a:Cg W E c m H e)=>T6 a (A1T T i))
 obtain⟨te,X⟩:∃te,te=A1T T i:=⟨_,rfl⟩
 obtain⟨Z,aA⟩:∃Z,Z=Z5 T i:=⟨_,rfl⟩
 have aC:=C6x (λ(W:World) (d:Nat) (a:Am W d T)=>C0E W d T a i)
 rw[<-X,<-aA]at aC
 rw[<-X]at HN
 rw[<-X,<-aA]
 clear h hs aD hT X aA
 go_enter Tryz.func143,Tryz.ntmps143
 go_wp2_with (first
  |(go_at_call 99;refine HT.out.mono ?_;rintro r w1 ⟨d,rfl,J,I⟩;have aJ:=C6x J;have aN:=C6x (U.out.step I);have V:=C6x (I.newS d rfl);have aE:=C6x (I.same (G:=CF c m) (λ_ x=>x.elim));clear J I)
  |(go_at_call 101;refine(aB.out w1 aN.out).mono ?_;rintro r w2 ⟨rfl,J,I⟩;have aO:=C6x J;have aF:=C6x (aE.out.trans I);have aK:=C6x (aJ.out.past U.out V.out I);clear J I aB)
  |(go_at_call 182;refine(aC.out w2 d aK.out).mono ?_;rintro r w3 ⟨rfl,J,I⟩;have aL:=C6x J;have aP:=C6x (U.out.fresh aO.out V.out I);have aG:=C6x (aF.out.freshG V.out I);clear J I)
  |(go_at_call 101;refine(HN.out w3 aP.out).mono ?_;rintro r w4 ⟨rfl,J,I⟩;have aQ:=C6x J;have aH:=C6x (aG.out.trans I);have aM:=C6x (aL.out.past U.out V.out I);clear J I)
  |(go_at_call 103;refine(A6V w4 d Z aM.out).mono ?_;rintro r w5 ⟨z,rr,rfl,J,I,h3⟩;have Y:=C6x J;have HS:=C6x I;have aR:=C6x (aQ.out.step h3);have aI:=C6x (aH.out.over h3);clear J I h3)
  |(go_at_call 98;refine(A8Q aR.out 1 (some ⟨z,0,none⟩) 128 128 rr (λ_=>⟨1,rfl,by have:=HM.out;omega,rfl,Y.out.len,Y.out.lt,HS.out.rd⟩)).mono ?_;rintro r w6 ⟨rfl,J,I⟩;have HF:=C6x (And.intro J (aI.out.trans I));clear J I)
  |fail)
 refine bodyPost_end (results_none rfl _ _ _) rfl ⟨rfl,?_,HF.out.2⟩
 have:=HF.out.1
 rw[<-Y.out.mapB]at this
 exact this
end
end
section
open Go.RowKit
structure CS where
 H:Nat->List Nat
 e:Int
def CS.note(s:CS)(I:Int):CS:=⟨s.H,M8 s.e I⟩
def CS.put(s:CS)(i:Nat)(l:List Nat):CS:=⟨A1g s.e s.H i l,s.e⟩
def CS.set(s:CS)(i:Nat)(x:L6):CS:=(s.note (A8h x)).put (1+i) (secI x)
noncomputable def CS.take(s:CS)(M:Nat):CS:=(s.note (Y1 (D3 s.H M))).put 1 (mapB (Y9 (D3 s.H M)))
noncomputable def CS.give(s:CS)(M:Nat)(a:Int):CS:=(s.note (A1T (D3 s.H M) a)).put 1 (mapB (Z5 (D3 s.H M) a))
noncomputable def CS.place(s:CS)(M:Nat)(a:Int)(l:List Nat):CS:=
 if l=[]then(if a=0 then s else s.give M a)else if a=0 then(s.take M).put (Y0 (D3 s.H M)).toNat l else s.put a.toNat l
noncomputable def CS.placeI(s:CS)(M:Nat)(a:Int)(l:List Nat):Int:=if l=[]then 0 else if a=0 then Y0 (D3 s.H M)else a
abbrev Cs(w:World)(E:Ev)(c m:Nat)(s:CS):Prop:=Cg w E c m s.H s.e
def C1o(w:World)(c m:Nat)(v:Value)(n:Nat)(l:List Nat):Prop:=∀W,B0 (CF c m) w (CF c m) W->Rd W 1 v n (l.map u8)
theorem V7{e I:Int}(h:M8 e I=0):e=0/\I=0:=by
 unfold M8 at h
 split at h
 ·exact⟨by assumption,h⟩
 ·rename_i J;exact absurd h J
theorem B0e{T:List Bool}(h:Y1 T=0):Y0 T=(L9 T:Int)/\L9 T<T.length:=by
 unfold Y1 at h
 split at h
 ·rename_i I;exact⟨by unfold Y0;rw[if_pos I],I⟩
 ·cases h
section
variable {w w':World} {E:Ev} {c m:Nat} {s:CS}
theorem B0f(h:Cs w E c m s)(hs:Sd s.H E.M)(a:Int)(A:Option Addr)(n k:Nat)(l:List Nat)(hn:n=l.length)(hl:l=[]\/(l.length=128/\∀y∈l,y<256))(hr:C1o w c m (.slice A n k) n l)(ha:a=0\/(0<=a/\a<E.M)):
 Calls Tryz.prog 88 #[.pointer (some ⟨c,0,none⟩),.int .i64 a,.slice A n k] w λr w'=>r= .returned (.int .i64 (s.placeI E.M a l))/\Cs w' E c m (s.place E.M a l)/\B0 (CF c m) w (CF c m) w':=by
 by_cases V:l=[]
 ·have aH:n=0:=by rw[hn,V];rfl
  have Y:s.placeI E.M a l=0:=by unfold CS.placeI;rw[if_pos V]
  have Z:s.place E.M a l=if a=0 then s else s.give E.M a:=by unfold CS.place;rw[if_pos V]
  rw[Y,Z]
  subst aH
  by_cases I:a=0
  ·rw[if_pos I]
   have HC:=C6x h
   subst I
   clear hn hl hr ha V Y Z h hs
   go_enter Tryz.func88,Tryz.ntmps88
   go_wp2
   go_ret
   exact⟨rfl,HC.out,B0.refl _ _⟩
  ·rw[if_neg I]
   have HG:=C6x (C3e h hs a)
   have hb:(a !=0)=true:=by rw[bne_iff_ne];exact I
   clear hn hl hr ha V Y Z h hs I
   go_enter Tryz.func88,Tryz.ntmps88
   go_wp2_with (first
    |(go_at_call 143;refine HG.out.mono ?_;rintro r w1 ⟨rfl,J,U⟩;have X:=C6x (And.intro J U);clear J U)
    |fail)
   go_ret
   exact⟨rfl,X.out.1,X.out.2⟩
 ·obtain⟨aA,aB⟩:l.length=128/\∀y∈l,y<256:=by rcases hl with x|x;exact absurd x V;exact x
  have Y:s.placeI E.M a l=if a=0 then Y0 (D3 s.H E.M)else a:=by unfold CS.placeI;rw[if_neg V]
  have Z:s.place E.M a l=if a=0 then(s.take E.M).put (Y0 (D3 s.H E.M)).toNat l else s.put a.toNat l:=by unfold CS.place;rw[if_neg V]
  rw[Y,Z]
  obtain rfl:n=128:=by rw[hn,aA]
  by_cases I:a=0
  ·rw[if_pos I,if_pos I]
   have HT:=C6x (C3d h hs)
   have HM:=C6x (show(D3 s.H E.M).length=E.M from P2 _ _)
   have HR:=C6x hr
   have HL:=C6x (And.intro aA aB)
   have HP:=C6x (λ(W:World) (k':Cs W E c m (s.take E.M)) (b:B0 (CF c m) w (CF c m) W)=>A8Q k' (Y0 (D3 s.H E.M)) A 128 k l (λI=>by
    obtain⟨x1,x2⟩:=V7 (show M8 s.e (Y1 (D3 s.H E.M))=0 from I)
    obtain⟨y1,y2⟩:=B0e x2
    exact⟨L9 (D3 s.H E.M),y1,by rw[HM.out]at y2;exact y2,rfl,HL.out.1,HL.out.2,HR.out W b⟩))
   obtain⟨ti,aE⟩:∃ti,ti=Y0 (D3 s.H E.M):=⟨_,rfl⟩
   rw[<-aE]at HT HP⊢
   obtain⟨s1,aC⟩:∃s1,s1=s.take E.M:=⟨_,rfl⟩
   have aG:=C6x (show Calls Tryz.prog 144 #[.pointer (some ⟨c,0,none⟩)] w λr w'=>r= .returned (.int .i64 ti)/\Cs w' E c m s1/\B0 (CF c m) w (CF c m) w' by rw[aC];exact HT.out)
   rw[<-aC]at HP⊢
   subst I
   clear hn hl hr ha V Y Z h hs aA aB aE aC HT
   go_enter Tryz.func88,Tryz.ntmps88
   go_wp2_with (first
    |(go_at_call 144;refine aG.out.mono ?_;rintro r w1 ⟨rfl,J,U⟩;have aF:=C6x J;have aD:=C6x U;clear J U)
    |(go_at_call 98;refine(HP.out w1 aF.out aD.out).mono ?_;rintro r w2 ⟨rfl,J,U⟩;have X:=C6x (And.intro J (aD.out.trans U));clear J U)
    |fail)
   go_ret
   exact⟨rfl,X.out.1,X.out.2⟩
  ·rw[if_neg I,if_neg I]
   have HP:=C6x (A8Q h a A 128 k l (λ_=>by
    rcases ha with x|x
    ·exact absurd x I
    ·exact⟨a.toNat,by omega,by omega,rfl,aA,aB,hr w (B0.refl _ _)⟩))
   have hb:(a==0)=false:=by rw[beq_eq_false_iff_ne];exact I
   clear hn hl hr ha V Y Z h hs aA aB I
   go_enter Tryz.func88,Tryz.ntmps88
   go_wp2_with (first
    |(go_at_call 98;refine HP.out.mono ?_;rintro r w2 ⟨rfl,J,U⟩;have X:=C6x (And.intro J U);clear J U)
    |fail)
   go_ret
   exact⟨rfl,X.out.1,X.out.2⟩
end
end
section
open Go.RowKit
structure Sw (H:Nat->List Nat) (M:Nat):Prop where
 sd:Sd H M
 low:∀h,h<42->(D3 H M).getD h false=true
theorem A3H{r:List Nat}{T:List Bool}{M:Nat}(h:Rep r T)(U:T.length=M)(Y:1<=M)(Z:M<=1024):A1d r (M:Int)/\A2n r M=T:=by
 refine⟨⟨by omega,by omega,h.len,λj I W=>?_⟩,?_⟩
 ·rw[h.bit j W]
  have:T.length<=j:=by rw[U];simpa using I
  rw[List.getD_eq_getElem?_getD,List.getElem?_eq_none this];rfl
 ·apply List.ext_getElem
  ·rw[P2,U]
  ·intro j I X
   have V:j<M:=by rw[P2]at I;exact I
   have J:=B1g r M j V
   rw[h.has (by rw[U];exact V) (by omega)]at J
   rw[List.getD_eq_getElem?_getD,List.getElem?_eq_getElem I,List.getD_eq_getElem?_getD,List.getElem?_eq_getElem X]at J
   simpa using J
theorem Sd.rep{H:Nat->List Nat}{M:Nat}(h:Sd H M):Rep (H 1) (D3 H M)/\(D3 H M).length=M:=by
 obtain⟨I,J⟩:=h.row 1 (by have:=h.hM;omega)
 exact⟨A85 I J (by have:=h.map.2.2.2;simpa using this),P2 _ _⟩
theorem A0n(H:Nat->List Nat)(i:Nat)(l:List Nat):N6 H i l i=l:=if_pos rfl
theorem H7(H:Nat->List Nat){i j:Nat}(l:List Nat)(h:j≠i):N6 H i l j=H j:=if_neg h
theorem Sw.map{H:Nat->List Nat}{M:Nat}{T:List Bool}(h:Sw H M)(I:∃r,Rep r T)(X:T.length=M)(Y:∀k,k<42->T.getD k false=true):Sw (N6 H 1 (mapB T)) M/\D3 (N6 H 1 (mapB T)) M=T:=by
 obtain⟨r,I⟩:=I
 rw[I.mapB]
 have W:=h.sd.hM
 obtain⟨Z,o2⟩:=A3H I X (by omega) (by omega)
 have e:D3 (N6 H 1 r) M=T:=by unfold D3;rw[A0n];exact o2
 refine⟨⟨⟨W,λi hi=>?_,by rw[A0n];exact Z,λi U V=>?_⟩,by rw[e];exact Y⟩,e⟩
 ·by_cases J:i=1
  ·rw[J,A0n];exact⟨I.len,I.lt⟩
  ·rw[H7 _ _ J];exact h.sd.row i hi
 ·rw[H7 _ _ (by omega)];exact h.sd.ino i U V
theorem Sw.blk{H:Nat->List Nat}{M a:Nat}{l:List Nat}(h:Sw H M)(X:42<=a\/a=0)(W:l.length=128)(V:∀y∈l,y<256):Sw (N6 H a l) M/\D3 (N6 H a l) M=D3 H M:=by
 have e:D3 (N6 H a l) M=D3 H M:=by unfold D3;rw[H7 _ _ (by omega)]
 refine⟨⟨⟨h.sd.hM,λi hi=>?_,by rw[H7 _ _ (by omega)];exact h.sd.map,λi J U=>?_⟩,by rw[e];exact h.low⟩,e⟩
 ·by_cases I:i=a
  ·rw[I,A0n];exact⟨W,V⟩
  ·rw[H7 _ _ I];exact h.sd.row i hi
 ·rw[H7 _ _ (by omega)];exact h.sd.ino i J U
theorem Sw.setI{H:Nat->List Nat}{M i:Nat}{x:L6}(h:Sw H M)(hi:1<=i/\i<=40)(Z:WfI x)(ok:okI x)(W:∀j,j<8->x.a j=0\/(42<=x.a j/\x.a j<M)):Sw (N6 H (1+i) (secI x)) M/\D3 (N6 H (1+i) (secI x)) M=D3 H M:=by
 have e:D3 (N6 H (1+i) (secI x)) M=D3 H M:=by unfold D3;rw[H7 _ _ (by omega)]
 refine⟨⟨⟨h.sd.hM,λk Y=>?_,by rw[H7 _ _ (by omega)];exact h.sd.map,λk U V=>?_⟩,by rw[e];exact h.low⟩,e⟩
 ·by_cases I:k=1+i
  ·rw[I,A0n];exact⟨A2o x,A6g x⟩
  ·rw[H7 _ _ I];exact h.sd.row k Y
 ·by_cases I:k=i
  ·subst I
   rw[A0n]
   obtain⟨y,hy,X⟩:=A4Z Z ok
   exact⟨y,hy,λj J=>by rw[X.a j J];exact W j J⟩
  ·rw[H7 _ _ (by omega)];exact h.sd.ino k U V
theorem A3J{T:List Bool}{n:Nat}(V:∀h,h<n->T.getD h false=true)(h:L9 T<T.length):n<=L9 T:=by
 rcases Nat.lt_or_ge (L9 T) n with W|U
 ·have I:=V _ W
  have J:(!T[L9 T])=true:=List.findIdx_getElem (w:=h)
  rw[A0B h]at I
  rw[I]at J
  cases J
 ·exact U
theorem A7t{T:List Bool}{j:Nat}(h:L9 T<T.length):(Y9 T).getD j false=if j=L9 T then true else T.getD j false:=by
 unfold Y9
 rw[A2S _ _ _ _ h]
theorem A7u{T:List Bool}{a:Int}{j:Nat}(h:0<=a/\a<T.length):(Z5 T a).getD j false=if j=a.toNat then false else T.getD j false:=by
 unfold Z5
 rw[if_pos (by unfold U0;exact h),A2S _ _ _ _ (by omega)]
section
variable {s:CS} {M:Nat}
theorem C1p(h:Sw s.H M):Sw (s.take M).H M:=by
 obtain⟨U,V⟩:=h.sd.rep
 have Y:=h.sd.hM
 unfold CS.take CS.put CS.note A1g
 simp only
 split
 ·rename_i J
  obtain⟨Z,X⟩:=V7 J
  obtain⟨y1,I⟩:=B0e X
  refine(h.map (T:=Y9 (D3 s.H M)) ⟨_,U.put I (by omega)⟩ (by rw[A4n,V]) (λk W=>?_)).1
  rw[A7t I]
  split
  ·rfl
  ·exact h.low k W
 ·exact h
theorem C1q(h:Sw s.H M){a:Int}(X:42<=a/\a<M):Sw (s.give M a).H M:=by
 obtain⟨U,I⟩:=h.sd.rep
 have W:=h.sd.hM
 unfold CS.give CS.put CS.note A1g
 simp only
 split
 ·have J:0<=a/\a<((D3 s.H M).length:Int):=by rw[I];omega
  refine(h.map (T:=Z5 (D3 s.H M) a) ⟨A53 (s.H 1) a.toNat,?_⟩ (by rw[A4o,I]) (λk V=>?_)).1
  ·unfold Z5
   rw[if_pos (by unfold U0;exact J)]
   exact U.drop (by omega) (by omega)
  ·rw[A7u J,if_neg (by omega)]
   exact h.low k V
 ·exact h
theorem A7v(h:Sw s.H M){a:Int}{l:List Nat}(J:a=0\/(42<=a/\a<M))(X:l=[]\/(l.length=128/\∀y∈l,y<256)):Sw (s.place M a l).H M:=by
 unfold CS.place
 split
 ·split
  ·exact h
  ·rename_i _ I
   rcases J with x|x
   ·exact absurd x I
   ·exact C1q h x
 ·rename_i Y
  obtain⟨U,V⟩:l.length=128/\∀y∈l,y<256:=by rcases X with x|x;exact absurd x Y;exact x
  split
  ·have W:=C1p h
   unfold CS.put A1g
   split
   ·rename_i I
    obtain⟨x1,Z⟩:=V7 (show M8 s.e (Y1 (D3 s.H M))=0 from I)
    obtain⟨y1,y2⟩:=B0e Z
    refine(W.blk (.inl ?_) U V).1
    rw[y1,Int.toNat_natCast]
    exact A3J h.low y2
   ·exact W
  ·rename_i I
   unfold CS.put A1g
   split
   ·refine(h.blk (.inl ?_) U V).1
    rcases J with x|x
    ·exact absurd x I
    ·omega
   ·exact h
theorem A5j(h:Sw s.H M){a:Int}{l:List Nat}(U:a=0\/(42<=a/\a<M)):s.placeI M a l=0\/(42<=s.placeI M a l/\s.placeI M a l<M)\/((s.place M a l).e≠0/\s.placeI M a l= -1):=by
 unfold CS.placeI
 split
 ·exact .inl rfl
 ·rename_i V
  split
  ·rename_i J
   obtain⟨X,Y⟩:=h.sd.rep
   by_cases I:L9 (D3 s.H M)<(D3 s.H M).length
   ·have W:Y0 (D3 s.H M)=(L9 (D3 s.H M):Int):=by unfold Y0;rw[if_pos I]
    have:=A3J h.low I
    exact .inr (.inl (by rw[W];omega))
   ·refine .inr (.inr ⟨?_,by unfold Y0;rw[if_neg I]⟩)
    unfold CS.place
    rw[if_neg V,if_pos J]
    show M8 s.e (Y1 (D3 s.H M))≠0
    intro x
    have:=(V7 x).2
    unfold Y1 at this
    rw[if_neg I]at this
    cases this
  ·rename_i J
   rcases U with x|x
   ·exact absurd x J
   ·exact .inr (.inl x)
end
end
section
open Go.RowKit
noncomputable def fl(M:Nat)(x:L6)(bs:List (List Nat))(s:CS):Nat->CS×(Nat->Int)
 |0=>(s,x.a)
 |j+1=>((fl M x bs s j).1.place M (x.a j) (bs.getD j []),λi=>if i=j then(fl M x bs s j).1.placeI M (x.a j) (bs.getD j [])else(fl M x bs s j).2 i)
noncomputable def CS.fill(s:CS)(M:Nat)(x:L6)(bs:List (List Nat)):CS:=(fl M x bs s 8).1
noncomputable def CS.fillX(s:CS)(M:Nat)(x:L6)(bs:List (List Nat)):L6:=⟨x.k,x.g,x.v,(fl M x bs s 8).2⟩
def atX(x:L6)(a:Nat->Int):L6:=⟨x.k,x.g,x.v,a⟩
theorem B8Z(x:L6)(a:Nat->Int)(j:Nat)(I:j<8)(v:Int):(ic (atX x a)).setIfInBounds (3+j) (.int .i64 v)=ic (atX x (λi=>if i=j then v else a i)):=by
 have h:j=0\/j=1\/j=2\/j=3\/j=4\/j=5\/j=6\/j=7:=by omega
 rcases h with rfl|rfl|rfl|rfl|rfl|rfl|rfl|rfl<;>rfl
theorem B9a(x:L6)(j:Nat)(I:j<8):(ic x)[3+j]? =some (.int .i64 (x.a j)):=by
 have h:j=0\/j=1\/j=2\/j=3\/j=4\/j=5\/j=6\/j=7:=by omega
 rcases h with rfl|rfl|rfl|rfl|rfl|rfl|rfl|rfl<;>rfl
def C3g(a:Nat->Int):List Value:=[.int .i64 (a 0),.int .i64 (a 1),.int .i64 (a 2),.int .i64 (a 3),.int .i64 (a 4),.int .i64 (a 5),.int .i64 (a 6),.int .i64 (a 7)]
theorem B6K{w:World}{z:Nat}{t:TypeId}{x:L6}(h:C3 w z t (ic x)):w.rangeAt z 3 (C3g x.a):=λj v hv=>by
 have I:j<8:=(List.getElem?_eq_some_iff.1 hv).1
 rw[h.cell,B9a x j I,<-hv]
 have h:j=0\/j=1\/j=2\/j=3\/j=4\/j=5\/j=6\/j=7:=by omega
 rcases h with rfl|rfl|rfl|rfl|rfl|rfl|rfl|rfl<;>rfl
theorem B6L:(Tryz.prog.info? 60).map (·.size)=some 8:=by kernel_rfl
def A0c(bs:List (List Nat)):Prop:=∀r∈bs,r.length=128/\∀y∈r,y<256
theorem A0c.at_{bs:List (List Nat)}(h:A0c bs)(j:Nat):bs.getD j []=[]\/((bs.getD j []).length=128/\∀y∈bs.getD j [],y<256):=by
 rw[List.getD_eq_getElem?_getD]
 cases hq:bs[j]? with
 |none=>exact .inl rfl
 |some r=>exact .inr (h r (List.mem_of_getElem? hq))
theorem A4v{M:Nat}{x:L6}{bs:List (List Nat)}{s:CS}(h:Sw s.H M)(J:A0c bs)(I:∀j,j<8->x.a j=0\/(42<=x.a j/\x.a j<M)):∀j,j<=8->Sw (fl M x bs s j).1.H M
 |0,_=>h
 |j+1,hj=>A7v (A4v h J I j (by omega)) (I j (by omega)) (J.at_ j)
def A1X(w:World)(c m:Nat)(v:Value)(bs:List (List Nat)):Prop:=∃cs:List Value,cs.length=bs.length/\∀W,B0 (CF c m) w (CF c m) W->Rd W 1 v bs.length cs/\∀(i:Nat) (b:Value) (r:List Nat),cs[i]? =some b->bs[i]? =some r->Rd W 1 b r.length (r.map u8)
theorem A1X.at_{w:World}{c m:Nat}{A:Option Addr}{n k j:Nat}{bs:List (List Nat)}{r:List Nat}(h:A1X w c m (.slice A n k) bs)(J:bs[j]? =some r):∃A' q,(∃b o,A=some ⟨b,o,none⟩/\∀W,B0 (CF c m) w (CF c m) W->W.cell? ⟨b,o+j,none⟩=some (.slice A' r.length q))/\∀W,B0 (CF c m) w (CF c m) W->Rd W 1 (.slice A' r.length q) r.length (r.map u8):=by
 obtain⟨cs,hl,I⟩:=h
 have aA:j<bs.length:=(List.getElem?_eq_some_iff.1 J).1
 have U:cs[j]? =some cs[j]:=List.getElem?_eq_getElem (by omega)
 obtain⟨A',q,e,_⟩:=((I w (B0.refl _ _)).2 j _ r U J).form
 refine⟨A',q,?_,λW a=>by have:=(I W a).2 j _ r U J;rwa[e]at this⟩
 have Z:n=bs.length:=by
  obtain⟨A0,c0,e0,_⟩:=(I w (B0.refl _ _)).1.form
  injection e0
 subst Z
 obtain⟨b,o,V,_,_⟩:=(I w (B0.refl _ _)).1.cells (by omega) (by decide)
 refine⟨b,o,V,λW a=>?_⟩
 obtain⟨b',o',X,_,Y⟩:=(I W a).1.cells (by omega) (by decide)
 rw[V]at X
 cases X
 have:=Y j _ U
 rwa[e]at this
theorem A1X.nil(w:World)(c m:Nat):A1X w c m (.slice none 0 0) []:=⟨[],rfl,λW _=>⟨(Sl.nil W 54 1).rd,λi b r h=>by simp at h⟩⟩
theorem A1X.later{w V:World}{c m:Nat}{v:Value}{bs:List (List Nat)}(h:A1X w c m v bs)(U:B0 (CF c m) w (CF c m) V):A1X V c m v bs:=by
 obtain⟨cs,I,J⟩:=h
 exact⟨cs,I,λW a=>J W (U.trans a)⟩
def FlQ(w:World)(E:Ev)(c m z:Nat)(x:L6)(bs:List (List Nat))(s:CS)(I:Nat)(t12:Value)(wr:World):Prop:=
 ∃j:Nat,t12= .int .i64 (j:Int)/\j<=8/\Cs wr E c m (fl E.M x bs s j).1/\C3 wr z 62 (ic (atX x (fl E.M x bs s j).2))/\C3 wr I 62 (ic J9)/\B0 (CF c m) w (CF c m) wr
section
variable {w w':World} {E:Ev} {c m:Nat} {s:CS}
theorem A3r{J:Func}{p:Tmp}{ty:TypeId}(h:J.results= #[.cell p ty])(I:Array Value)(w:World){z:Nat}{t:TypeId}{C:Array Value}{d:TypeDesc}(W:I.getD p undef= .pointer (some ⟨z,0,none⟩))(U:C3 w z t C)
 (X:Tryz.prog.underlying ty=some d) (V:d.isRow=true) (hi:(Tryz.prog.info? ty).map (·.size)=some C.size):(results J I).run Tryz.prog w= .ok (.agg C) w:=by
 have:=A1x h I Tryz.prog w W (C3.range U) X V (by rw[hi,Array.length_toList])
 rwa[Array.toArray_toList]at this
theorem B3D(h:Cs w E c m s)(hs:Sw s.H E.M)(x:L6)(hx:∀j,j<8->x.a j=0\/(42<=x.a j/\x.a j<E.M))(A:Option Addr)(n k:Nat)(bs:List (List Nat))(hn:n=bs.length)(U:A0c bs)(Z:bs.length<=100)(hr:A1X w c m (.slice A n k) bs):
 Calls Tryz.prog 93 #[.pointer (some ⟨c,0,none⟩),.agg (ic x),.slice A n k] w λr w'=>r= .returned (.agg (ic (s.fillX E.M x bs)))/\Cs w' E c m (s.fill E.M x bs)/\B0 (CF c m) w (CF c m) w':=by
 have HC:=C6x h
 have HX:=C6x hx
 have HN:=C6x hn
 have HB:=C6x U
 have HR:=C6x hr
 have aF:=C6x (A4v hs U hx)
 have bY:(n:Int)<=100:=by omega
 have bM:=C6x (λ(j:Nat) (hj:j<8) (w:World)=>show(Instr.index 60 (.agg (C3g x.a).toArray) (.int .i64 (j:Int))).run Tryz.prog w= .ok (.int .i64 (x.a j)) w from A9F x.a j hj w)
 have aT:=C6x (λ(d:Nat) (hd:w.heap.size<=d)=>h.apart (G:=J0 d) (λk hk=>by unfold J0 at hk;omega))
 clear h hx hn U hr hs Z
 go_enter Tryz.func93,Tryz.ntmps93
 go_wp2_with (first
  |(refine C5 rfl _ rfl rfl ?_;intro I w1 hz U J;have aI:=C6x hz;have aR:=C6x U;have aP:=C6x J;clear hz U J)
  |(refine B9 rfl rfl C6 ?_;intro z6 w2 hz U J;have aJ:=C6x (Nat.le_trans aP.out.size hz);have bI:=C6x U;have aS:=C6x (aR.out.over J);have bO:=C6x (show I≠z6 fromλe=>by have:=aR.out.lt;omega);have aQ:=C6x (aP.out.trans J);clear hz U J)
  |(refine wpList_load_mid rfl 60 (.tmp 10) rfl I 3 rfl (C3g x.a) _ (B6K aS.out) Tryz.underlying60 rfl (by rw[B6L];rfl) ?_)
  |fail)
 go_loopw [12] (FlQ w E c m I x bs s z6) (λt _=>8-(intOf t).toNat)
 case atStart=>exact⟨0,rfl,by omega,HC.out.step aQ.out,aS.out,bI.out,aQ.out.same (λ_ x=>x.elim)⟩
 case round=>
  obtain⟨j,rfl,hj,hc,Y,aB,J⟩:=hrel
  by_cases aC:j<8
  ·have bV:=bM.out j aC
   have bX:(j:Int)<8:=by omega
   have bA:=HX.out j aC
   have bG:=HB.out.at_ j
   have aO:=aF.out j (by omega)
   obtain⟨X,aN⟩:∃X,X=(fl E.M x bs s j).1:=⟨_,rfl⟩
   obtain⟨aj,aK⟩:∃aj,aj=(fl E.M x bs s j).2:=⟨_,rfl⟩
   have bD:fl E.M x bs s (j+1)=(X.place E.M (x.a j) (bs.getD j []),λi=>if i=j then X.placeI E.M (x.a j) (bs.getD j [])else aj i):=by rw[aN,aK];rfl
   rw[<-aN]at hc aO
   rw[<-aK]at Y
   have aG:=C6x bD
   have aF:=C6x aO
   have aV:=C6x hc
   have bT:=C6x Y
   have bU:=C6x aB
   have aU:=C6x J
   have aX:=C6x aC
   have aW:=C6x bA
   have aH:=C6x bG
   have aD:=C6x (show∀V,Cs V E c m (X.place E.M (x.a j) (bs.getD j []))->B0 (CF c m) wr (CF c m) V->V.cell? ⟨I,3+j,none⟩=some (.int .i64 (aj j))/\V.frozen? ⟨I,3+j,none⟩=false/\FlQ w E c m I x bs s z6 (.int .i64 ((j+1:Nat):Int)) (V.setCell ⟨I,3+j,none⟩ (.int .i64 (X.placeI E.M (x.a j) (bs.getD j []))))fromλV c5 a5=>by
    have b5:=Y.keep (a5.block I Y.lt (λhk=>aT.out I aI.out I hk rfl))
    have b6:=aB.keep (a5.block z6 aB.lt (λhk=>aT.out z6 aJ.out z6 hk rfl))
    have sc:B0 (J0 I) V (J0 I) (V.setCell ⟨I,3+j,none⟩ (.int .i64 (X.placeI E.M (x.a j) (bs.getD j [])))):=B0.setCell (F:=J0 I) (F':=J0 I) (p:=⟨I,3+j,none⟩) (B0.refl _ _) (.inl rfl) _
    refine⟨by rw[b5.cell,B9a _ j aC];rfl,b5.frozen _,j+1,rfl,by omega,?_,?_,b6.far1 sc (λe=>bO.out e.symm),(J.trans a5).freshG aI.out sc⟩
    ·rw[aG.out];exact HC.out.fresh c5 aI.out sc
    ·rw[aG.out]
     have:=b5.set_ (3+j) (.int .i64 (X.placeI E.M (x.a j) (bs.getD j [])))
     rw[B8Z x aj j aC]at this
     exact this)
   obtain⟨l,Z⟩:∃l,l=bs.getD j []:=⟨_,rfl⟩
   rw[<-Z]at aH aD
   clear hc Y aB J bA bG aO bD aN aK aG
   by_cases aL:j<n
   ·have bS:(j:Int)<(n:Int):=by omega
    have aZ:j<bs.length:=by rw[<-HN.out];exact aL
    have bB:bs[j]? =some l:=by rw[Z,List.getD_eq_getElem?_getD,List.getElem?_eq_getElem aZ];rfl
    obtain⟨A',q,⟨b,o,rfl,aY⟩,bF⟩:=HR.out.at_ bB
    have bR:=aY wr aU.out
    have aA:=C6x (B0f aV.out aF.out.sd (x.a j) A' l.length q l rfl aH.out (λW a=>bF W (aU.out.trans a)) (by rcases aW.out with e|e;exact .inl e;exact .inr ⟨by omega,e.2⟩))
    obtain⟨ll,bC⟩:∃ll,ll=l.length:=⟨_,rfl⟩
    rw[<-bC]at bR aA
    obtain⟨pi,aE⟩:∃pi,pi=X.placeI E.M (x.a j) l:=⟨_,rfl⟩
    rw[<-aE]at aA aD
    clear aZ bB aY bF bC aE Z aL
    go_wp2_with (first
     |(go_at_call 88;refine aA.out.mono ?_;rintro r V ⟨rfl,h1,h2⟩;obtain⟨d5,f5,h5⟩:=aD.out V h1 h2;have H5:=C6x h5;clear h1 h2 h5)
     |fail)
    exact⟨by have:=H5.out;simpa using this,by have:=aX.out;simp[intOf]<;>omega⟩
   ·have aM:l=[]:=by rw[Z,List.getD_eq_getElem?_getD,List.getElem?_eq_none (by rw[<-HN.out];omega)];rfl
    have aA:=C6x (B0f aV.out aF.out.sd (x.a j) none 0 0 l (by rw[aM];rfl) aH.out (λW a=>by rw[aM];exact(Sl.nil W 5 1).rd) (by rcases aW.out with e|e;exact .inl e;exact .inr ⟨by omega,e.2⟩))
    obtain⟨pi,aE⟩:∃pi,pi=X.placeI E.M (x.a j) l:=⟨_,rfl⟩
    rw[<-aE]at aA aD
    have bS:¬(j:Int)<(n:Int):=by omega
    clear aM Z aE aL
    go_wp2_with (first
     |(go_at_call 88;refine aA.out.mono ?_;rintro r V ⟨rfl,h1,h2⟩;obtain⟨d5,f5,h5⟩:=aD.out V h1 h2;have H5:=C6x h5;clear h1 h2 h5)
     |fail)
    exact⟨by have:=H5.out;simpa using this,by have:=aX.out;simp[intOf]<;>omega⟩
  ·obtain rfl:j=8:=by omega
   have HF:=C6x (show Cs wr E c m (s.fill E.M x bs)/\B0 (CF c m) w (CF c m) wr from⟨hc,J⟩)
   have bP:=C6x (show C3 wr I 62 (ic (s.fillX E.M x bs))from Y)
   have bQ:=C6x aB
   clear hc Y aB J aC hj
   go_wp2_with (first
    |(refine B6 rfl _ rfl I bP.out rfl Tryz.underlying62 rfl C0 (C2 _) ?_)
    |(refine B7 rfl _ _ rfl z6 bQ.out rfl rfl C0 (C2 _) (C2 _) (D5 _) ?_;intro w7 U J;have bJ:=C6x U;have bK:=C6x (HC.out.fresh HF.out.1 aJ.out J);have bH:=C6x (HF.out.2.freshG aJ.out J);clear U J)
    |fail)
   exact bodyPost_ret (A3r rfl _ _ rfl bJ.out Tryz.underlying62 rfl (by rw[C0];rfl)) rfl ⟨rfl,bK.out,bH.out⟩
end
end
end Go.Proofs.YtbefmjiclpobjaaGreat
