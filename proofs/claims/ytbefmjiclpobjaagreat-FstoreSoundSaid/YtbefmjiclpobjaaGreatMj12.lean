import Derived.Test.YtbefmjiclpobjaaGreatMj10
import Derived.Test.YtbefmjiclpobjaaGreatMj11
import Derived.DeepKeys
import Derived.Test.YtbefmjiclpobjaaGreatMj00
import Derived.Laws.BytesArg
import Derived.Lib.SplitLaws
import Derived.Lib.Split
import Derived.Sort.Walk0
namespace Go.Proofs.YtbefmjiclpobjaaGreat
set_option maxHeartbeats 3200000
set_option maxRecDepth 3000
section
open Go.RowKit
theorem B0.fresh{F':Nat->Prop}{w I w2:World}{z:Nat}(h:B0 B5 w B5 I)(U:w.heap.size<=z)(k:B0 (J0 z) I F' w2):B0 B5 w B5 w2:=
 ⟨k.os.trans h.os,k.tape.trans h.tape,k.output.trans h.output,Nat.le_trans h.size k.size,λi hi J=>(k.block i (Nat.lt_of_lt_of_le hi h.size) (λe=>by unfold J0 at e;omega)).trans (h.block i hi J),λ_ x=>x.elim⟩
theorem B0.nul{F':Nat->Prop}{w I:World}(h:B0 B5 w F' I):B0 B5 w B5 I:=h.sub (λ_ x=>x.elim)
theorem C3.far1{w w':World}{y z:Nat}{F':Nat->Prop}{t:TypeId}{C:Array Value}(h:C3 w y t C)(k:B0 (J0 z) w F' w')(I:y≠z):C3 w' y t C:=h.keep (k.block y h.lt I)
theorem C3.over{w w':World}{y:Nat}{F':Nat->Prop}{t:TypeId}{C:Array Value}(h:C3 w y t C)(k:B0 B5 w F' w'):C3 w' y t C:=h.keep (k.block y h.lt (λx=>x))
section
variable {ops:Array Oper} {rest:List Oper} {o:Oper} {a:Act} {w:World} {Q:Exit->Act->World->Prop}
theorem B9{t:TypeId}{C:Array Value}{s b:Nat}(I:o.guard=none)(J:o.op= .alloc t)(U:(Tryz.prog.info? t).map (λi=>(i.zero,i.size,i.bytes))=some (some (.agg C),s,b))
 (h:∀z w',w.heap.size<=z->C3 w' z t C->B0 B5 w B5 w'->wpList Tryz.prog ops Q rest (a.put o.dst (.pointer (some ⟨z,0,none⟩))) w'):wpList Tryz.prog ops Q (o::rest) a w:=
 A4X I J U (h _ _ (Nat.le_refl _) (C3.new _ _ _) ((B0.refl _ _).alloc _))
theorem B7{t V:TypeId}{C D:Array Value}{s:Nat}(X:o.guard=none)(x y:Operand)(Y:o.op= .store t x y)(z:Nat)(J:C3 w z V C)(hx:a.eval x= .pointer (some ⟨z,0,none⟩))(hy:a.eval y= .agg D)
 (Z:(Tryz.prog.info? t).map (·.size)=some s) (I:D.size=s) (U:C.size=s) (W:D.all (·.oneCell')=true)
 (h:∀w',C3 w' z V D->B0 (J0 z) w (J0 z) w'->wpList Tryz.prog ops Q rest (a.put o.dst undef) w'):wpList Tryz.prog ops Q (o::rest) a w:=
 wpList_store_mid X t x y Y z 0 D hx hy (by rw[I,<-U];exact J.ithere) (by rw[Z,I]) W (h _ (J.iputAll (by rw[U,I])) (B0.isetCells D.toList 0 _ (B0.refl _ _) (.inl rfl)))
theorem C5{t:TypeId}{C:Array Value}(I:o.guard=none)(x:Operand)(J:o.op= .box t x)(U:a.eval x= .agg C)
 (h:∀z w',w.heap.size<=z->C3 w' z t C->B0 B5 w B5 w'->wpList Tryz.prog ops Q rest (a.put o.dst (.pointer (some ⟨z,0,none⟩))) w'):wpList Tryz.prog ops Q (o::rest) a w:=by
 refine wpList_plain I λK hK=>?_
 unfold Oper.wp execOp
 simp[J,U,Result.andThen]
 exact hK _ _ (h _ _ (Nat.le_refl _) (C3.new _ _ _) ((B0.refl _ _).alloc _))
theorem B6{t t':TypeId}{C:Array Value}{s:Nat}{d:TypeDesc}(V:o.guard=none)(x:Operand)(W:o.op= .load t x)(z:Nat)(I:C3 w z t' C)(Z:a.eval x= .pointer (some ⟨z,0,none⟩))
 (Y:Tryz.prog.underlying t=some d) (U:d.isRow=true) (X:(Tryz.prog.info? t).map (·.size)=some s) (J:C.size=s)
 (h:wpList Tryz.prog ops Q rest (a.put o.dst (.agg C)) w):wpList Tryz.prog ops Q (o::rest) a w:=by
 refine wpList_load_mid V t x W z 0 Z C.toList d (C3.range I) Y U (by rw[X,Array.length_toList,J]) ?_
 rw[Array.toArray_toList]
 exact h
end
section
variable {ops:Array Oper} {o:Oper} {a:Act} {w:World} {K:Act->World->Prop} {Q:Exit->Act->World->Prop} {E:Prop}
theorem T2{t:TypeId}{C:Array Value}{s b:Nat}(J:o.guard=none)(U:o.op= .alloc t)(I:(Tryz.prog.info? t).map (λi=>(i.zero,i.size,i.bytes))=some (some (.agg C),s,b))
 (h:∀z w',w.heap.size<=z->C3 w' z t C->B0 B5 w B5 w'->K (a.put o.dst (.pointer (some ⟨z,0,none⟩))) w'):if Region.wanted o (yielded ops a.tmps)=true then Oper.wp Tryz.prog o a w K Q else E:=by
 rw[if_pos (by simp[Region.wanted,J])]
 obtain⟨i,hi,I,_⟩:=info_parts I
 have V:(zeroValue t).run Tryz.prog w= .ok (.agg C) w:=by simp[zeroValue,typeInfo,hi,I]
 unfold Oper.wp execOp
 simp[U,Instr.alloc,V,newVar,newRow,Value.cells,Result.andThen]
 exact h _ _ (Nat.le_refl _) (C3.new _ _ _) ((B0.refl _ _).alloc _)
theorem C0K{t:TypeId}{C:Array Value}(I:o.guard=none)(x:Operand)(J:o.op= .box t x)(U:a.eval x= .agg C)
 (h:∀z w',w.heap.size<=z->C3 w' z t C->B0 B5 w B5 w'->K (a.put o.dst (.pointer (some ⟨z,0,none⟩))) w'):if Region.wanted o (yielded ops a.tmps)=true then Oper.wp Tryz.prog o a w K Q else E:=by
 rw[if_pos (by simp[Region.wanted,I])]
 unfold Oper.wp execOp
 simp[J,U,Result.andThen]
 exact h _ _ (Nat.le_refl _) (C3.new _ _ _) ((B0.refl _ _).alloc _)
theorem T3{t V:TypeId}{C D:Array Value}{s:Nat}(X:o.guard=none)(x y:Operand)(Y:o.op= .store t x y)(z:Nat)(J:C3 w z V C)(hx:a.eval x= .pointer (some ⟨z,0,none⟩))(hy:a.eval y= .agg D)
 (Z:(Tryz.prog.info? t).map (·.size)=some s) (I:D.size=s) (U:C.size=s) (W:D.all (·.oneCell')=true)
 (h:∀w',C3 w' z V D->B0 (J0 z) w (J0 z) w'->K (a.put o.dst undef) w'):if Region.wanted o (yielded ops a.tmps)=true then Oper.wp Tryz.prog o a w K Q else E:=by
 rw[if_pos (by simp[Region.wanted,X])]
 exact wp_store_mid t x y Y z 0 D hx hy (by rw[I,<-U];exact J.ithere) (by rw[Z,I]) W (h _ (J.iputAll (by rw[U,I])) (B0.isetCells D.toList 0 _ (B0.refl _ _) (.inl rfl)))
end
theorem Q2{ops:Array Oper}{S:World->Prop}{I:Oper}{a:Act}{t t':TypeId}{C:Array Value}{n:Nat}{d:TypeDesc}(Z:Region.wanted I (yielded ops a.tmps)=true)(x:Operand)(W:I.op= .load t x)(z:Nat)(hx:a.eval x= .pointer (some ⟨z,0,none⟩))(U:∀w,S w->C3 w z t' C)
 (Y:Tryz.prog.underlying t=some d) (V:d.isRow=true) (X:(Tryz.prog.info? t).map (·.size)=some n) (J:C.size=n):YieldsIf Tryz.prog ops S I (.agg C) a:=by
 have:=yieldsIf_load_mid (P:=Tryz.prog) (S:=S) Z t x W z 0 hx C.toList d (λw h=>C3.range (U w h)) Y V (by rw[X,Array.length_toList,J])
 rwa[Array.toArray_toList]at this
theorem V4{J:Func}{p q:Tmp}{ty:TypeId}(h:J.results= #[.cell p ty,.tmp q])(I:Array Value)(w:World){z:Nat}{t:TypeId}{C:Array Value}{d:TypeDesc}{v:Value}(X:I.getD p undef= .pointer (some ⟨z,0,none⟩))(Z:I.getD q undef=v)(V:C3 w z t C)
 (hu:Tryz.prog.underlying ty=some d) (W:d.isRow=true) (hi:(Tryz.prog.info? ty).map (·.size)=some C.size):(results J I).run Tryz.prog w= .ok (.tuple #[.agg C,v]) w:=by
 have Y:I[p]?.getD undef= .pointer (some ⟨z,0,none⟩):=by simpa using X
 have aA:I[q]?.getD undef=v:=by simpa using Z
 have U:=run_loadVar_mid (P:=Tryz.prog) w z 0 ty C.toList d (C3.range V) hu W (by rw[hi,Array.length_toList])
 rw[Array.toArray_toList]at U
 simp only[results,h]
 simp[Y,aA,asAddr,U]
theorem C6:(Tryz.prog.info? 62).map (λi=>(i.zero,i.size,i.bytes))=some (some (.agg (ic J9)),11,88):=by kernel_rfl
theorem A55:Tryz.prog.built 62 []=some (ic J9):=by kernel_rfl
theorem T1{ops:Array Oper}{rest:List Oper}{o:Oper}{a:Act}{w:World}{Q:Exit->Act->World->Prop}(I:o.guard=none)(J:o.op= .build 62 #[])
 (h:wpList Tryz.prog ops Q rest (a.put o.dst (.agg (ic J9))) w):wpList Tryz.prog ops Q (o::rest) a w:=by
 refine wpList_build I 62 #[] J (by simp[A55]) ?_
 simpa[A55]using h
end
section
open Go.ChangeShapes Go.WideShapes Go.ChangeAt Go.RowKit
def A5R(x:Nat):Lit:=.int .u8 (x:Int)
theorem A5b{α β:Type}(f:α->Option β)(g:α->β):∀L:List α,(∀x∈L,f x=some (g x))->L.mapM f=some (L.map g)
 |[],_=>rfl
 |x::L,h=>by
  rw[List.mapM_cons,h x (by simp),A5b f g L (λy I=>h y (by simp[I]))]
  rfl
theorem A6Z{α β:Type}(f:α->β):∀L:List α,(L.map (λi=>[f i])).flatten=L.map f
 |[]=>rfl
 |x::L=>by rw[List.map_cons,List.flatten_cons,A6Z f L];rfl
theorem A8B(l:List Nat):(List.range l.length).map (λi=>A5R (l.getD i 0))=l.map A5R:=by
 apply List.ext_getElem (by simp)
 intro i I J
 simp at I
 rw[List.getElem_map,List.getElem_map,List.getElem_range,List.getD_eq_getElem?_getD,List.getElem?_eq_getElem I]
 rfl
theorem B4C:Tryz.prog.cellsOf 5=1:=by kernel_rfl
theorem B1o:Tryz.prog.cellsOf 145=128:=by kernel_rfl
theorem B82(d x:Nat)(h:x<256):Tryz.prog.keyLits (d+1) 5 [u8 x]=some [A5R x]:=by
 unfold Program.keyLits
 rw[Tryz.underlying5]
 have:(Lit.int .u8 (x:Int)).wf=true:=by simp[Lit.wf,IntKind.min,IntKind.max,IntKind.signed,IntKind.bits];omega
 simp[u8,A5R,this]
theorem B4D(l:List Nat)(I:l.length=128)(h:∀x∈l,x<256):Tryz.prog.keyLits 5 145 ((l.map u8).toArray).toList=some (l.map A5R):=by
 unfold Program.keyLits
 rw[Tryz.underlying145]
 simp only[B4C,B1o,Nat.mul_one]
 rw[if_pos (by simpa using I),A5b _ (λi=>[A5R (l.getD i 0)]) _ (λi hi=>?_),Option.map_some,A6Z,<-I,A8B]
 have hi:i<l.length:=by rw[I];simpa using hi
 have e:(((l.map u8).toArray).toList.drop i).take 1=[u8 (l.getD i 0)]:=by
  rw[List.toList_toArray,<-List.map_drop,<-List.getElem_cons_drop hi,List.map_cons,List.take_succ_cons,List.take_zero,List.getD_eq_getElem?_getD,List.getElem?_eq_getElem hi]
  rfl
 rw[e]
 exact B82 3 _ (A1J h i)
theorem A7a(l:List Nat)(I:l.length=128):(Value.agg (l.map u8).toArray).formed Tryz.prog 145=true:=by
 unfold Value.formed
 simp only[Tryz.underlying145,B1o]
 simp[I]
theorem B1p(l I:List Nat)(h:l.map A5R=I.map A5R):l=I:=by
 refine List.map_inj_right (f:=A5R) ?_ |>.1 h
 intro x y e
 unfold A5R at e
 injection e with _ e
 omega
theorem C2P(l I:List Nat)(U:l.length=128)(V:I.length=128)(h:∀x∈l,x<256)(W:∀x∈I,x<256):∀w,(Op.equalIn 10000 145 (.agg (l.map u8).toArray) (.agg (I.map u8).toArray)).run Tryz.prog w= .ok (decide (l=I)) w:=by
 intro w
 have X:=run_equalIn_deep (P:=Tryz.prog) 9998 2 145 (by kernel_rfl)
 obtain⟨c,Y,J⟩:=X w 5 5 (.agg (l.map u8).toArray) (.agg (I.map u8).toArray) _ _ (A7a l U) (A7a I V) (B4D l U h) (B4D I V W)
 rw[Y]
 congr 1
 by_cases e:l=I
 ·rw[decide_eq_true e,J.2 (by rw[e])]
 ·rw[decide_eq_false e]
  cases c
  ·rfl
  ·exact absurd (B1p _ _ (J.1 rfl)) e
def A8C(cs:Array Value):Nat->List Value->Array Value
 |_,[]=>cs
 |o,v::r=>A8C (cs.setIfInBounds o v) (o+1) r
theorem A9G:∀(I:List Value) (cs:Array Value) (o k:Nat),o+I.length<=cs.size->(A8C cs o I)[k]? =if o<=k/\k<o+I.length then I[k-o]? else cs[k]?
 |[],cs,o,k,_=>by
  rw[if_neg (by simp)];rfl
 |v::r,cs,o,k,h=>by
  rw[List.length_cons]at h
  show(A8C (cs.setIfInBounds o v) (o+1) r)[k]? =_
  rw[A9G r _ (o+1) k (by simp;omega),Array.getElem?_setIfInBounds,List.length_cons]
  by_cases J:o+1<=k/\k<o+1+r.length
  ·rw[if_pos J,if_pos (by omega),show k-o=k-(o+1)+1 by omega,List.getElem?_cons_succ]
  ·rw[if_neg J]
   by_cases U:o=k
   ·subst U
    rw[if_pos rfl,if_pos (by omega),if_pos (by omega),Nat.sub_self];rfl
   ·rw[if_neg U,if_neg (by omega)]
theorem C3.setCells_{g:Nat}{t:TypeId}:∀(I:List Value) (cs:Array Value) (o:Nat) (w:World),C3 w g t cs->C3 (w.setCells g o I) g t (A8C cs o I)
 |[],_,_,_,h=>h
 |v::r,_,o,_,h=>C3.setCells_ r _ (o+1) _ (h.set_ o v)
theorem A4q{F:Nat->Prop}{w:World}{d:Nat}:∀(I:List Value) (o:Nat) (w':World),B0 F w (J0 d) w'->(F d\/w.heap.size<=d)->B0 F w (J0 d) (w'.setCells d o I)
 |[],_,_,h,_=>h
 |v::r,o,_,h,hd=>A4q r (o+1) _ (h.setCell (p:=⟨d,o,none⟩) hd v) hd
theorem B83(n:Nat)(r l:List Nat)(J:r.length=128)(I:l.length=128):A8C (J7 n r) 1 (l.map u8)=J7 n l:=by
 apply Array.ext_getElem?
 intro k
 rw[A9G _ _ _ _ (by rw[B1j J];simp[I]),List.length_map,I]
 unfold J7
 rw[List.getElem?_toArray,List.getElem?_toArray]
 rcases k with _|k
 ·rw[if_neg (by omega)];rfl
 ·rw[List.getElem?_cons_succ,List.getElem?_cons_succ]
  by_cases h:k<128
  ·rw[if_pos (by omega),show k+1-1=k by omega]
  ·rw[if_neg (by omega),List.getElem?_eq_none (by simp;omega),List.getElem?_eq_none (by simp;omega)]
theorem B6z{w:World}{d n:Nat}{r:List Nat}(h:C3 w d 147 (J7 n r))(J:r.length=128):w.there d 1 128:=λj I=>by
 refine⟨?_,h.frozen _⟩
 rw[h.cell,A87 n r J j I];rfl
theorem A8D:Tryz.prog.built 145 []=some zR:=by kernel_rfl
theorem A3o{ops:Array Oper}{rest:List Oper}{o:Oper}{a:Act}{w:World}{Q:Exit->Act->World->Prop}(I:o.guard=none)(J:o.op= .build 145 #[])
 (h:wpList Tryz.prog ops Q rest (a.put o.dst (.agg zR)) w):wpList Tryz.prog ops Q (o::rest) a w:=by
 have e:((#[]:Array (Nat×Operand)).map λ(i,x)=>(i,a.eval x)).toList=[]:=by simp
 refine wpList_build I 145 _ J (by rw[e,A8D];rfl) ?_
 rw[e,A8D]
 exact h
theorem C0L{ops:Array Oper}{rest:List Oper}{o:Oper}{a:Act}{w:World}{Q:Exit->Act->World->Prop}(I:o.guard=none)(x:Operand)(J:o.op= .sliceToArrayPointer 145 x)(A:Option Addr)(c:Nat)(U:a.eval x= .slice A 128 c)
 (h:wpList Tryz.prog ops Q rest (a.put o.dst (.pointer A)) w):wpList Tryz.prog ops Q (o::rest) a w:=by
 refine wpList_plain I λK hK=>?_
 unfold Oper.wp execOp
 simp[J,U,Instr.arrayAt,run_underlying Tryz.underlying145,Result.andThen]
 exact hK _ _ h
def A7b(w:World)(l:List Nat)(n:Int)(e:Ending)(w':World):Prop:=
 (A1d l n/\∃d,e= .returned (.tuple #[.pointer (some ⟨d,0,none⟩),.int .i64 0])/\Am w' d (A2n l n.toNat)/\B0 B5 w (J0 d) w')\/
 (¬A1d l n/\e= .returned (.tuple #[.pointer none,.int .i64 (if n<1\/1024<n then 2 else 4)])/\B0 B5 w B5 w')
theorem B0.none_{w w':World}{F:Nat->Prop}(h:B0 B5 w F w'):B0 B5 w B5 w':=h.sub (λ_ h=>h.elim)
theorem B1q(v:Value)(l:List Nat)(n:Int)(w:World)(h:In w v l):Calls Tryz.prog 24 #[v,.int .i64 n] w (A7b w l n):=by
 by_cases V:n<1\/1024<n
 ·have HF:=C6x (show∀w',w=w'->A7b w l n (.returned (.tuple #[.pointer none,.int .i64 2])) w' fromλw' e=>.inr ⟨λk=>by unfold A1d at k;omega,by rw[if_pos V],by rw[<-e];exact B0.refl _ _⟩)
  have HN:=C6x (C2G n V w)
  clear h V
  go_enter Tryz.func24,Tryz.ntmps24
  go_wp2_with (first
   |(go_at_call 68;refine HN.out.mono ?_;rintro e w1 ⟨rfl,rfl⟩)
   |fail)
  go_ret2
  exact HF.out _ rfl
 ·obtain⟨N,rfl⟩:∃N:Nat,n=(N:Int):=⟨n.toNat,by omega⟩
  have h1:1<=N:=by omega
  have h2:N<=1024:=by omega
  have aI:=C6x (B49 N h1 h2 w)
  have aB:=C6x (show¬A1d l (N:Int)->∀w',B0 B5 w B5 w'->A7b w l (N:Int) (.returned (.tuple #[.pointer none,.int .i64 4])) w' fromλk w' a=>.inr ⟨k,by rw[if_neg V],a⟩)
  have HH:=C6x h
  obtain⟨A,c,rfl,aN,aM⟩:=h.rd.form
  by_cases I:l.length=128
  ·have HL:=C6x I
   have aT:=C6x h.lt
   obtain⟨b,o,rfl,J,hc⟩:=h.rd.cells (by omega) (by decide)
   have HR:=C6x (show∀w' d,B0 B5 w (J0 d) w'->w'.rangeAt b o (l.map u8)fromλw' d a j u hu=>(World.cell?_of_block (a.block b J (λh=>h))).trans (hc j u hu))
   have aO:=C6x (show(l.map u8).length=128 by simpa using I)
   have HS:=C6x (show((l.map u8).toArray).size=128 by simpa using I)
   have HO:=C6x (A6f l)
   have aC:=C6x (show∀w' d,Am w' d (List.replicate N false)->B0 B5 w (J0 d) w'->w'.there d 1 128/\C3 (w'.setCells d 1 ((l.map u8).toArray).toList) d 147 (J7 N l)/\B0 B5 w (J0 d) (w'.setCells d 1 ((l.map u8).toArray).toList)fromλw' d ha a=>by
    obtain⟨r,U,_,_,J⟩:=ha
    rw[List.length_replicate]at J
    refine⟨B6z J U.len,?_,A4q _ _ _ a (.inr ?_)⟩
    ·have:=C3.setCells_ (l.map u8) _ 1 _ J
     rw[B83 N r l U.len I]at this
     simpa using this
    ·rcases a.into d rfl with h|h
     ·exact h.elim
     ·exact h)
   have aF:=C6x (λ(d:Nat) (w':World) (J:C3 w' d 147 (J7 N l))=>B6s w' d N (A1w l) l (Bt.self I h.lt) h2 J)
   have aG:=C6x (λ(r:List Nat) (U:Bt r (λj=>decide (N<=j)&&A1w l j))=>C2P r (List.replicate 128 0) U.len (by simp) U.lt Bt.zero.lt)
   have aK:=C6x (λ(r:List Nat) (U:Bt r (λj=>decide (N<=j)&&A1w l j))=>B1h U)
   have aR:=C6x (show B1f l N->∀w' d,C3 w' d 147 (J7 N l)->B0 B5 w (J0 d) w'->A7b w l (N:Int) (.returned (.tuple #[.pointer (some ⟨d,0,none⟩),.int .i64 0])) w' fromλk w' d J a=>.inl ⟨⟨by omega,by omega,I,by simpa using k⟩,d,rfl,⟨l,by simpa using A85 I h.lt k,by rw[P2];simpa using h1,by rw[P2];simpa using h2,by rw[P2];simpa using J⟩,a⟩)
   have aQ:=C6x (show¬B1f l N->∀w',B0 B5 w B5 w'->A7b w l (N:Int) (.returned (.tuple #[.pointer none,.int .i64 4])) w' fromλk w' a=>aB.out (λk'=>k (by simpa using k'.2.2.2)) w' a)
   obtain⟨C,hC⟩:∃C,C=(l.map u8).toArray:=⟨_,rfl⟩
   have HC:=C6x hC
   rw[<-hC]at HS HO aC
   rw[I]
   clear hC hc J h I aN aM V h1 h2 aB
   go_enter Tryz.func24,Tryz.ntmps24
   go_wp2_with (first
    |(go_at_call 68;refine aI.out.mono ?_;rintro e w1 ⟨d,rfl,a1,Y⟩;have aE:=C6x a1;have X:=C6x Y;clear a1 Y)
    |(refine C0L rfl (.tmp 20) rfl (some ⟨b,o,none⟩) c rfl ?_)
    |(refine wpList_load_mid rfl 145 (.tmp 21) rfl b o rfl (l.map u8) _ (HR.out _ _ X.out) Tryz.underlying145 rfl (by rw[A0x,aO.out]) ?_;rw[<-HC.out])
    |(refine wpList_store_mid rfl 145 (.tmp 24) (.tmp 22) rfl d 1 C rfl rfl (by rw[HS.out];exact(aC.out _ _ aE.out X.out).1) (by rw[A0x,HS.out]) HO.out ?_)
    |fail)
   have aA:=aC.out _ _ aE.out X.out
   obtain⟨W,hW⟩:∃W,W=w1.setCells d 1 C.toList:=⟨_,rfl⟩
   rw[<-hW]at aA⊢
   have HB:=C6x aA.2.1
   have HA:=C6x aA.2.2
   clear aA hW
   have aH:=C6x (show∀W',B0 B5 W B5 W'->C3 W' d 147 (J7 N l)/\B0 B5 w (J0 d) W' fromλW' a=>⟨HB.out.keep (a.block d HB.out.lt (λh=>h)),HA.out.trans (a.same (λ_ h=>h.elim))⟩)
   refine(aF.out d W HB.out).mono ?_
   rintro e W1 ⟨r',rfl,aD,aL⟩
   have hq:=aG.out r' aD
   have HZ:=C6x (aK.out r' aD)
   have HK:=C6x (aH.out W1 aL)
   rw[show((List.replicate 128 0).map u8).toArray=zR from rfl]at hq
   obtain⟨Z,hZ⟩:∃Z,Z=zR:=⟨_,rfl⟩
   have aJ:=C6x hZ
   rw[<-hZ]at hq
   obtain⟨R,hR⟩:∃R,R=(r'.map u8).toArray:=⟨_,rfl⟩
   rw[<-hR]at hq⊢
   clear aD aL hR hZ aG aK aF aH
   by_cases e:r'=List.replicate 128 0
   ·rw[decide_eq_true e]at hq
    have HE:=C6x (HZ.out.1 e)
    clear e
    go_wp2_with (first
     |(refine A3o rfl rfl ?_;rw[<-aJ.out])
     |fail)
    go_ret2
    exact aR.out HE.out _ _ HK.out.1 HK.out.2
   ·rw[decide_eq_false e]at hq
    have HE:=C6x (λk=>e (HZ.out.2 k))
    clear e
    go_wp2_with (first
     |(refine A3o rfl rfl ?_;rw[<-aJ.out])
     |fail)
    go_ret2
    exact aQ.out HE.out _ HK.out.2.none_
  ·have aP:=C6x (aB.out (λk=>I k.2.2.1))
   have aS:((l.length:Nat):Int)≠128:=by omega
   obtain⟨m,hm⟩:∃m,m=l.length:=⟨_,rfl⟩
   rw[<-hm]at aS⊢
   clear V h1 h2 h I aN aM hm
   go_enter Tryz.func24,Tryz.ntmps24
   go_wp2_with (first
    |(go_at_call 68;refine aI.out.mono ?_;rintro e w1 ⟨d,rfl,a1,Y⟩;have X:=C6x Y;clear a1 Y)
    |fail)
   go_ret2
   exact aP.out _ X.out.none_
end
section
open Go.ChangeShapes Go.WideShapes Go.ChangeAt Go.RowKit
def A3c(l:List Nat):ByteArray:=strOfNums (l.map Int.ofNat)
theorem B84{a b:List Nat}(J:∀x∈a,x<256)(U:∀x∈b,x<256)(h:A3c a=A3c b):a=b:=by
 have I:=congrArg (λs=>s.data.toList) h
 simp only[A3c,strOfNums_data,List.map_map]at I
 have e:∀l:List Nat,(∀x∈l,x<256)->l=((l.map ((λn:Int=>UInt8.ofNat n.toNat)∘Int.ofNat)).map UInt8.toNat):=λl V=>by
  rw[List.map_map]
  conv=>lhs;rw[<-List.map_id l]
  refine List.map_congr_left λx W=>?_
  have:=V x W
  simp[Function.comp]
  omega
 rw[e a J,e b U,I]
theorem A0T{w:World}{A:Option Addr}{n c:Nat}{l:List Nat}(h:Rd w 1 (.slice A n c) n (l.map u8)):(convert 54 9 (.slice A n c)).run Tryz.prog w= .ok (.string (A3c l)) w:=by
 have U:l.length=n:=by obtain⟨_,_,_,_,_,h,_⟩:=h;simpa using h
 obtain⟨A',c',e,_,_,_,hA,X⟩:=h
 injection e with e1 e2 e3
 subst e1 e3
 by_cases V:0<n
 ·obtain⟨I,rfl,hb,J⟩:=X V
  obtain⟨b,o,Z⟩:=I
  have W:=J 0 _ (List.getElem?_eq_getElem (by simp;omega))
  have Y:Z=none:=by simpa[Addr.add]using World.cell?_spot W
  subst Y
  refine run_convert_bytes_arg (P:=Tryz.prog) w 54 5 Tryz.underlying54 Tryz.underlying5 b o n c (l.map Int.ofNat) (by simp[U]) (λi hi=>?_) 9 Tryz.underlying9
  have h:=J i (u8 l[i]) (by rw[List.getElem?_map,List.getElem?_eq_getElem (by omega)];rfl)
  rw[add_none]at h
  rw[h,List.getD_eq_getElem?_getD,List.getElem?_map,List.getElem?_eq_getElem (by omega)]
  rfl
 ·obtain rfl:n=0:=by omega
  obtain rfl:l=[]:=List.eq_nil_of_length_eq_zero U
  have:=run_convert_bytes_string (P:=Tryz.prog) w 54 9 5 A 0 c Tryz.underlying54 Tryz.underlying5 Tryz.underlying9
  rw[this]
  cases A with
  |none=>simp[Conv.bytesToString];rfl
  |some I=>
   rw[run_bytesToString w I 0 c [] (by simpa using run_loadCells_list (P:=Tryz.prog) w I [] (by simp))]
   rfl
theorem A0F(Z v2:Value)(n1 n2:Nat)(l1 l2:List Nat)(w:World)(I:Rd w 1 Z n1 (l1.map u8))(J:Rd w 1 v2 n2 (l2.map u8))(V:∀x∈l1,x<256)(W:∀x∈l2,x<256):
 Calls Tryz.prog 72 #[Z,v2] w λe w'=>e= .returned (.bool (decide (l1=l2)))/\w=w':=by
 obtain⟨A1,c1,rfl,_,_⟩:=I.form
 obtain⟨A2,c2,rfl,_,_⟩:=J.form
 have e1:=A0T I
 have e2:=A0T J
 have e:((A3c l1).toList==(A3c l2).toList)=decide (l1=l2):=by
  by_cases h:l1=l2
  ·subst h;simp
  ·rw[decide_eq_false h,beq_eq_false_iff_ne]
   refineλU=>h (B84 V W ?_)
   rw[ByteArray.toList_eq,ByteArray.toList_eq]at U
   exact ByteArray.ext (Array.ext' U)
 obtain⟨s1,X⟩:∃s,s=A3c l1:=⟨_,rfl⟩
 obtain⟨s2,Y⟩:∃s,s=A3c l2:=⟨_,rfl⟩
 rw[<-X]at e1 e
 rw[<-Y]at e2 e
 rw[<-e]
 clear I J V W X Y e
 go_enter Tryz.func72,Tryz.ntmps72
 go_wp2
 go_ret
 exact⟨rfl,rfl⟩
end
section
open Go.ChangeShapes Go.WideShapes Go.ChangeAt Go.RowKit
def dI(l:List Nat):L6:=(A1e l).getD J9
def eI(l:List Nat):Int:=if(A1e l).isSome=true then 0 else 4
def A4r(w:World)(l:List Nat)(e:Ending)(w':World):Prop:=e= .returned (.tuple #[.agg (ic (dI l)),.int .i64 (eI l)])/\B0 B5 w B5 w'
theorem A4r.no{w w':World}{l:List Nat}(h:A1e l=none)(I:B0 B5 w B5 w'):A4r w l (.returned (.tuple #[.agg #[.int .i64 0,.int .i64 0,.int .u64 0,.int .i64 0,.int .i64 0,.int .i64 0,.int .i64 0,.int .i64 0,.int .i64 0,.int .i64 0,.int .i64 0],.int .i64 4])) w':=by
 refine⟨?_,I⟩
 unfold dI eI
 rw[h]
 rfl
theorem A4r.yes{w w':World}{l:List Nat}{x:L6}(h:A1e l=some x)(I:B0 B5 w B5 w'):A4r w l (.returned (.tuple #[.agg (ic x),.int .i64 0])) w':=by
 refine⟨?_,I⟩
 unfold dI eI
 rw[h]
 rfl
theorem B85{l:List Nat}(h:l.length≠128):A1e l=none:=if_neg (λk=>h k.1)
end
section
open Go.ChangeShapes Go.WideShapes Go.ChangeAt Go.RowKit
theorem A3D(v:Value)(l:List Nat)(w:World)(h:Rd w 1 v l.length (l.map u8))(hb:∀x∈l,x<256):Calls Tryz.prog 25 #[v] w (A4r w l):=by
 obtain⟨n,hn⟩:∃n,n=l.length:=⟨_,rfl⟩
 rw[<-hn]at h
 obtain⟨A,c,rfl,aQ,aR⟩:=h.form
 clear aQ aR
 obtain⟨z,hz⟩:∃z,z=w.heap.size:=⟨_,rfl⟩
 obtain⟨V0,hV⟩:∃V,V=w.alloc (.cells (ic J9) 62):=⟨_,rfl⟩
 have HZ:=C6x (show C3 V0 z 62 (ic J9)by rw[hV,hz];exact C3.new _ _ _)
 have HA:=C6x (show B0 B5 w B5 V0 by rw[hV];exact(B0.refl _ _).alloc _)
 have HR:=C6x (show Rd V0 1 (.slice A n c) n (l.map u8)by rw[hV];exact h.far (λk _ _ hk=>Below.heap_alloc _ _ _ hk) (by simp))
 have HV:=C6x hV
 have aO:=C6x hz
 have aJ:=C6x (show w.heap.size<=z by rw[hz];exact Nat.le_refl _)
 have HN:=C6x hn
 have HB:=C6x hb
 clear hn hV hz h hb
 have aP:ic J9= #[.int .i64 0,.int .i64 0,.int .u64 0,.int .i64 0,.int .i64 0,.int .i64 0,.int .i64 0,.int .i64 0,.int .i64 0,.int .i64 0,.int .i64 0]:=rfl
 rw[aP]at HV
 clear aP
 by_cases hn:n=128
 ·subst hn
  have aD:=C6x (B6y _ l V0 HR.out HN.out.symm HB.out)
  obtain⟨X,hX⟩:∃X,X=prt (byN l):=⟨_,rfl⟩
  rw[<-hX]at aD
  have HX:=C6x hX
  have aI:=C6x (A54 X (by rw[hX];exact B3l _))
  clear hX
  obtain⟨k,g,v,a⟩:=X
  simp only[ic]at aD aI
  go_enter Tryz.func25,Tryz.ntmps25
  go_upto_region 1 with(fail)
  rw[<-HV.out,<-aO.out]
  by_cases ho:okI ⟨k,g,v,a⟩
  ·have aC:=C6x ho
   clear ho
   by_cases hq:secI ⟨k,g,v,a⟩=l
   ·have aF:=C6x (λ(w':World) (ha:B0 B5 w B5 w')=>A4r.yes (show A1e l=some ⟨k,g,v,a⟩by unfold A1e;rw[<-HX.out,if_pos ⟨HN.out.symm,aC.out,hq⟩]) ha)
    have HQ:=C6x (decide_eq_true hq)
    clear hq
    go_wp2_with (first
     |(go_at_call 70;refine aD.out.mono ?_;rintro e w1 ⟨rfl,a1⟩;have aH:=C6x (a1.alloc (.cells #[.int .i64 k,.int .i64 g,.int .u64 (v:Int),.int .i64 (a 0),.int .i64 (a 1),.int .i64 (a 2),.int .i64 (a 3),.int .i64 (a 4),.int .i64 (a 5),.int .i64 (a 6),.int .i64 (a 7)] 62));clear a1 aD)
     |(go_at_call 71;refine(aI.out _).mono ?_;rintro e w2 ⟨A2,m2,k2,F2,rfl,a2,y2,_⟩;obtain⟨rfl,s2⟩:=y2 aC.out;rw[if_pos aC.out];have aA:=C6x (aH.out.trans a2);have aE:=C6x (HZ.out.keep (aA.out.block z HZ.out.lt (λh=>h)));have aL:=C6x s2;have aK:=C6x (HR.out.far (λk _ _ hk=>aA.out.block k hk (λh=>h)) aA.out.size);obtain⟨s0,s1,aN,s3,s4,s5,s6,s7,s8,s9,aM⟩:=((C3.new w1 62 (ic ⟨k,g,v,a⟩)).keep (a2.block _ (C3.new w1 62 (ic ⟨k,g,v,a⟩)).lt (λh=>h))).c11.all;simp only at s0 s1 aN s3 s4 s5 s6 s7 s8 s9 aM;clear a2 y2 s2)
     |(go_at_call 72;refine(A0F _ _ _ _ _ _ _ aL.out.rd aK.out (A6g _) HB.out).mono ?_;rintro e w3 ⟨rfl,rfl⟩;rw[HQ.out])
     |(refine A0E C0 rfl (.tmp 2) (.tmp 27) rfl z _ (ic ⟨k,g,v,a⟩) aE.out rfl rfl (D5 _) rfl rfl ?_)
     |fail)
    have aB:=(B0.isetCells (ic ⟨k,g,v,a⟩).toList 0 _ (HA.out.trans aA.out) (.inr aJ.out)).sub (G:=B5) (λ_ h=>h.elim)
    obtain⟨I,J,W,Y,Z,z5,z6,z7,z8,z9,U⟩:=(aE.out.iputAll (D:=ic ⟨k,g,v,a⟩) rfl).c11.all
    obtain⟨W9,aG⟩:∃W9,W9=World.setCells w2 z 0 (ic ⟨k,g,v,a⟩).toList:=⟨_,rfl⟩
    rw[<-aG]at I J W Y Z z5 z6 z7 z8 z9 U aB⊢
    simp only at I J W Y Z z5 z6 z7 z8 z9 U
    exact bodyPost_ret (v:=.tuple #[.agg #[.int .i64 k,.int .i64 g,.int .u64 (v:Int),.int .i64 (a 0),.int .i64 (a 1),.int .i64 (a 2),.int .i64 (a 3),.int .i64 (a 4),.int .i64 (a 5),.int .i64 (a 6),.int .i64 (a 7)],.int .i64 0]) (by simp[results,Tryz.results25,go_sem,I,J,W,Y,Z,z5,z6,z7,z8,z9,U]) rfl (aF.out _ aB)
   ·have aF:=C6x (λ(w':World) (ha:B0 B5 w B5 w')=>A4r.no (show A1e l=none by unfold A1e;rw[<-HX.out];exact if_neg (λh=>hq h.2.2)) ha)
    have HQ:=C6x (decide_eq_false hq)
    clear hq
    go_wp2_with (first
     |(go_at_call 70;refine aD.out.mono ?_;rintro e w1 ⟨rfl,a1⟩;have aH:=C6x (a1.alloc (.cells #[.int .i64 k,.int .i64 g,.int .u64 (v:Int),.int .i64 (a 0),.int .i64 (a 1),.int .i64 (a 2),.int .i64 (a 3),.int .i64 (a 4),.int .i64 (a 5),.int .i64 (a 6),.int .i64 (a 7)] 62));clear a1 aD)
     |(go_at_call 71;refine(aI.out _).mono ?_;rintro e w2 ⟨A2,m2,k2,F2,rfl,a2,y2,_⟩;obtain⟨rfl,s2⟩:=y2 aC.out;rw[if_pos aC.out];have aA:=C6x (aH.out.trans a2);have aE:=C6x (HZ.out.keep (aA.out.block z HZ.out.lt (λh=>h)));have aL:=C6x s2;have aK:=C6x (HR.out.far (λk _ _ hk=>aA.out.block k hk (λh=>h)) aA.out.size);obtain⟨s0,s1,aN,s3,s4,s5,s6,s7,s8,s9,aM⟩:=((C3.new w1 62 (ic ⟨k,g,v,a⟩)).keep (a2.block _ (C3.new w1 62 (ic ⟨k,g,v,a⟩)).lt (λh=>h))).c11.all;simp only at s0 s1 aN s3 s4 s5 s6 s7 s8 s9 aM;clear a2 y2 s2)
     |(go_at_call 72;refine(A0F _ _ _ _ _ _ _ aL.out.rd aK.out (A6g _) HB.out).mono ?_;rintro e w3 ⟨rfl,rfl⟩;rw[HQ.out])
     |(refine A0E C0 rfl (.tmp 2) (.tmp 26) rfl z _ (ic J9) aE.out rfl rfl (D5 _) rfl rfl ?_)
     |fail)
    have aB:=(B0.isetCells (ic J9).toList 0 _ (HA.out.trans aA.out) (.inr aJ.out)).sub (G:=B5) (λ_ h=>h.elim)
    obtain⟨I,J,W,Y,Z,z5,z6,z7,z8,z9,U⟩:=(aE.out.iputAll (D:=ic J9) rfl).c11.all
    obtain⟨W9,aG⟩:∃W9,W9=World.setCells w2 z 0 (ic J9).toList:=⟨_,rfl⟩
    rw[<-aG]at I J W Y Z z5 z6 z7 z8 z9 U aB⊢
    simp only[J9]at I J W Y Z z5 z6 z7 z8 z9 U
    exact bodyPost_ret (v:=.tuple #[.agg #[.int .i64 0,.int .i64 0,.int .u64 0,.int .i64 0,.int .i64 0,.int .i64 0,.int .i64 0,.int .i64 0,.int .i64 0,.int .i64 0,.int .i64 0],.int .i64 4]) (by simp[results,Tryz.results25,go_sem,I,J,W,Y,Z,z5,z6,z7,z8,z9,U]) rfl (aF.out _ aB)
  ·have aC:=C6x ho
   have aF:=C6x (λ(w':World) (ha:B0 B5 w B5 w')=>A4r.no (show A1e l=none by unfold A1e;rw[<-HX.out];exact if_neg (λh=>aC.out h.2.1)) ha)
   clear ho
   go_wp2_with (first
    |(go_at_call 70;refine aD.out.mono ?_;rintro e w1 ⟨rfl,a1⟩;have aH:=C6x (a1.alloc (.cells #[.int .i64 k,.int .i64 g,.int .u64 (v:Int),.int .i64 (a 0),.int .i64 (a 1),.int .i64 (a 2),.int .i64 (a 3),.int .i64 (a 4),.int .i64 (a 5),.int .i64 (a 6),.int .i64 (a 7)] 62));clear a1 aD)
    |(go_at_call 71;refine(aI.out _).mono ?_;rintro e w2 ⟨A2,m2,k2,F2,rfl,a2,y2,_⟩;rw[if_neg aC.out];have aA:=C6x (aH.out.trans a2);have aE:=C6x (HZ.out.keep (aA.out.block z HZ.out.lt (λh=>h)));clear a2 y2)
    |(refine A0E C0 rfl (.tmp 2) (.tmp 26) rfl z _ (ic J9) aE.out rfl rfl (D5 _) rfl rfl ?_)
    |fail)
   have aB:=(B0.isetCells (ic J9).toList 0 _ (HA.out.trans aA.out) (.inr aJ.out)).sub (G:=B5) (λ_ h=>h.elim)
   obtain⟨I,J,W,Y,Z,z5,z6,z7,z8,z9,U⟩:=(aE.out.iputAll (D:=ic J9) rfl).c11.all
   obtain⟨W9,aG⟩:∃W9,W9=World.setCells w2 z 0 (ic J9).toList:=⟨_,rfl⟩
   rw[<-aG]at I J W Y Z z5 z6 z7 z8 z9 U aB⊢
   simp only[J9]at I J W Y Z z5 z6 z7 z8 z9 U
   exact bodyPost_ret (v:=.tuple #[.agg #[.int .i64 0,.int .i64 0,.int .u64 0,.int .i64 0,.int .i64 0,.int .i64 0,.int .i64 0,.int .i64 0,.int .i64 0,.int .i64 0,.int .i64 0],.int .i64 4]) (by simp[results,Tryz.results25,go_sem,I,J,W,Y,Z,z5,z6,z7,z8,z9,U]) rfl (aF.out _ aB)
 ·have aS:((n:Int)!=128)=true:=by rw[bne_iff_ne];omega
  have aF:=C6x (λ(w':World) (ha:B0 B5 w B5 w')=>A4r.no (B85 (l:=l) (by rw[<-HN.out];exact hn)) ha)
  clear hn
  go_enter Tryz.func25,Tryz.ntmps25
  go_upto_region 1 with(fail)
  rw[<-HV.out,<-aO.out]
  go_wp2_with (first
   |(refine A0E C0 rfl (.tmp 2) (.tmp 10) rfl z _ (ic J9) HZ.out rfl rfl (D5 _) rfl rfl ?_)
   |fail)
  have aB:=(B0.isetCells (ic J9).toList 0 _ HA.out (.inr aJ.out)).sub (G:=B5) (λ_ h=>h.elim)
  obtain⟨I,J,W,Y,Z,z5,z6,z7,z8,z9,U⟩:=(HZ.out.iputAll (D:=ic J9) rfl).c11.all
  obtain⟨W9,aG⟩:∃W9,W9=World.setCells V0 z 0 (ic J9).toList:=⟨_,rfl⟩
  rw[<-aG]at I J W Y Z z5 z6 z7 z8 z9 U aB⊢
  simp only[J9]at I J W Y Z z5 z6 z7 z8 z9 U
  exact bodyPost_ret (v:=.tuple #[.agg #[.int .i64 0,.int .i64 0,.int .u64 0,.int .i64 0,.int .i64 0,.int .i64 0,.int .i64 0,.int .i64 0,.int .i64 0,.int .i64 0,.int .i64 0],.int .i64 4]) (by simp[results,Tryz.results25,go_sem,I,J,W,Y,Z,z5,z6,z7,z8,z9,U]) rfl (aF.out _ aB)
end
section
def okC(c:UInt8):Bool:=decide (32<c.toNat)&&decide (c.toNat<127)&&decide (c.toNat≠47)
def A56(n:List UInt8):Prop:=0<n.length/\n.length<17/\(∀c∈n,okC c=true)/\n≠[46]/\n≠[46,46]
instance (n:List UInt8):Decidable (A56 n):=by unfold A56;infer_instance
def C5U(n:List UInt8):Prop:=∀c∈n,c≠47
def C44(l:List (List UInt8)):Prop:=l.length<=8/\∀n∈l,A56 n
instance (l:List (List UInt8)):Decidable (C44 l):=by unfold C44;infer_instance
def B86(l m:List (List UInt8)):Prop:=m.length<l.length/\l.take m.length=m
instance (l m:List (List UInt8)):Decidable (B86 l m):=by unfold B86;infer_instance
end
section
open Go.RowKit
structure En where
 s:ByteArray
 i:Int
 g:Int
 k:Int
def ec(e:En):List Value:=[.string e.s,.int .i64 e.i,.int .i64 e.g,.int .i64 e.k]
def ecs(l:List En):List Value:=l.flatMap ec
theorem W6(l:List En):(ecs l).length=l.length * 4:=by
 induction l with
 |nil=>rfl
 |cons d l ih=>simp[ecs,List.flatMap_cons,ec]at ih⊢;omega
theorem A3E(l m:List En):ecs (l++m)=ecs l++ecs m:=by simp[ecs]
theorem C2Q(l:List En)(k j:Nat)(J:j<4)(I:k<l.length):(ecs l)[k * 4+j]? =(ec l[k])[j]? :=by
 induction l generalizing k with
 |nil=>simp at I
 |cons d l ih=>
  cases k with
  |zero=>
   simp only[ecs,List.flatMap_cons,Nat.zero_mul,Nat.zero_add,List.getElem_cons_zero]
   rw[List.getElem?_append_left (by simpa[ec]using J)]
  |succ k=>
   have h:=ih k (by simpa using I)
   simp only[ecs,List.flatMap_cons,List.getElem_cons_succ]at h⊢
   rw[List.getElem?_append_right (by simp[ec];omega),<-h]
   congr 1
   simp[ec];omega
theorem B87(e:En):∀u∈ec e,u.oneCell'=true:=by
 intro u I
 simp only[ec,List.mem_cons,List.not_mem_nil,or_false]at I
 rcases I with rfl|rfl|rfl|rfl<;>rfl
theorem A4s(l:List En):∀u∈ecs l,u.oneCell'=true:=by
 intro u I
 obtain⟨e,_,h⟩:=List.mem_flatMap.1 I
 exact B87 e u h
theorem B1r(l:List En)(n:Nat):ecs (l.take n)=(ecs l).take (n * 4):=by
 induction l generalizing n with
 |nil=>simp[ecs]
 |cons e l ih=>
  cases n with
  |zero=>simp[ecs]
  |succ n=>
   have:=ih n
   simp only[ecs,List.take_succ_cons,List.flatMap_cons]at this⊢
   rw[this,show(n+1) * 4=(ec e).length+n * 4 by simp[ec];omega,List.take_length_add_append]
theorem B1s(l:List En)(n:Nat):ecs (l.drop n)=(ecs l).drop (n * 4):=by
 induction l generalizing n with
 |nil=>simp[ecs]
 |cons e l ih=>
  cases n with
  |zero=>simp[ecs]
  |succ n=>
   have:=ih n
   simp only[ecs,List.drop_succ_cons,List.flatMap_cons]at this⊢
   rw[this,show(n+1) * 4=(ec e).length+n * 4 by simp[ec];omega,<-List.drop_drop,List.drop_left]
def ltS(a b:ByteArray):Prop:=a.data.toList<b.data.toList
instance (a b:ByteArray):Decidable (ltS a b):=by unfold ltS;infer_instance
theorem C0M(a b:ByteArray):Op.bytesLess a.toList b.toList=decide (ltS a b):=by
 rw[bytesLess_eq,ByteArray.toList_eq,ByteArray.toList_eq];rfl
theorem A0i{s t:ByteArray}(h:s.data.toList=t.data.toList):s=t:=ByteArray.ext (Array.ext' h)
theorem B3p(a b:ByteArray):(a.toList==b.toList)=decide (a=b):=by
 by_cases h:a=b
 ·subst h;simp
 ·rw[decide_eq_false h,beq_eq_false_iff_ne]
  intro I
  rw[ByteArray.toList_eq,ByteArray.toList_eq]at I
  exact h (A0i I)
theorem Z0(a:ByteArray):¬ltS a a:=List.lt_irrefl _
theorem A0a{a b c:ByteArray}(h:ltS a b)(k:ltS b c):ltS a c:=List.lt_trans h k
theorem A1z{a b:ByteArray}(h:ltS a b):¬ltS b a:=List.lt_asymm h
theorem A9H(a b:ByteArray):ltS a b\/a=b\/ltS b a:=by
 rcases Std.lt_trichotomy a.data.toList b.data.toList with h|h|h
 ·exact .inl h
 ·exact .inr (.inl (A0i h))
 ·exact .inr (.inr h)
def okE(e:En):Prop:=A56 e.s.data.toList/\0<e.i/\e.i<41/\0<=e.g/\e.g<2147483648/\0<e.k/\e.k<3
instance (e:En):Decidable (okE e):=by unfold okE;infer_instance
theorem A2q{e:En}(h:okE e):0<e.s.size/\e.s.size<17:=⟨h.1.1,h.1.2.1⟩
def C0N(l:List En)(k:Nat):Prop:=∀e,l[k]? =some e->okE e/\∀d,0<k->l[k-1]? =some d->ltS d.s e.s
def S6(l:List En):Prop:=∀k,C0N l k
open Classical in
noncomputable instance(l:List En):Decidable (S6 l):=Classical.propDecidable _
theorem S6.all{l:List En}(h:S6 l):∀e∈l,okE e:=by
 intro e I
 obtain⟨k,J,rfl⟩:=List.mem_iff_getElem.1 I
 exact(h k _ (List.getElem?_eq_getElem J)).1
def nmB(s:ByteArray)(j:Nat):Nat:=if h:j<s.size then(s[j]'h).toNat else 0
theorem B3q(s:ByteArray)(j:Nat):nmB s j<256:=by
 unfold nmB
 split
 ·exact UInt8.toNat_lt _
 ·decide
def sN(N:Nat)(e:En):Nat->Nat
 |0=>(((N * 2^5+e.s.size) * 2^6+e.i.toNat) * 2^31+e.g.toNat) * 2^2+e.k.toNat
 |j+1=>sN N e j * 2^8+nmB e.s j
theorem A9J(N:Nat)(e:En):∀(j i:Nat),sN N e (i+j)/2^(8 * j)=sN N e i
 |0,i=>by simp
 |j+1,i=>by
  have h:sN N e (i+(j+1))=sN N e (i+j) * 2^8+nmB e.s (i+j):=rfl
  rw[show 8 * (j+1)=8+8 * j by omega,Nat.pow_add,<-Nat.div_div_eq_div_mul,h,Nat.mul_comm,Nat.mul_add_div (by decide),Nat.div_eq_of_lt (B3q _ _),Nat.add_zero]
  exact A9J N e j i
theorem B1t(N:Nat)(e:En)(h:okE e):sN N e 0/2^44=N:=by
 have X:=A2q h
 obtain⟨_,I,J,h3,U,V,W⟩:=h
 simp only[sN]
 omega
theorem C45(N:Nat)(e:En)(h:okE e):sN N e 16/2^172=N:=by
 rw[show 172=8 * 16+44 from rfl,Nat.pow_add,<-Nat.div_div_eq_div_mul]
 have:=A9J N e 16 0
 rw[Nat.zero_add]at this
 rw[this,B1t N e h]
def bN(l:List En):Nat->Nat
 |0=>0
 |k+1=>match l[k]? with|some e=>sN (bN l k) e 16|none=>bN l k
theorem A9K{l:List En}{k:Nat}{e:En}(h:l[k]? =some e):bN l (k+1)=sN (bN l k) e 16:=by rw[bN,h]
theorem B3r(l:List En)(h:∀e∈l,okE e):∀(j k:Nat),k+j<=l.length->bN l (k+j)/2^(172 * j)=bN l k
 |0,k,_=>by simp
 |j+1,k,hk=>by
  have I:k+j<l.length:=by omega
  have e:=A9K (List.getElem?_eq_getElem I)
  rw[show k+(j+1)=k+j+1 from rfl,e,show 172 * (j+1)=172+172 * j by omega,Nat.pow_add,<-Nat.div_div_eq_div_mul,C45 _ _ (h _ (List.getElem_mem I))]
  exact B3r l h j k (by omega)
theorem C46(l:List En)(h:∀e∈l,okE e)(k:Nat)(J:k<=l.length):bN l k<2^(172 * k):=by
 have:=B3r l h k 0 (by omega)
 rw[Nat.zero_add]at this
 have I:=(Nat.div_lt_iff_lt_mul (Nat.two_pow_pos (172 * k)) (y:=1) (x:=bN l k)).mp (by rw[this];exact Nat.one_pos)
 omega
def wN7(l:List En):Nat:=bN l l.length * 2^(1024-172 * l.length)
def X5(l:List En):List Nat:=be 128 (wN7 l)
theorem A8c(l:List En):(X5 l).length=128:=C7 _ _
theorem B60(l:List En):∀x∈X5 l,x<256:=λx I=>A3T _ _ x I
theorem B3s(l:List En)(U:l.length<=5):V1 (bN l l.length) (172 * l.length)++List.replicate (128-qn (172 * l.length)) 0=X5 l:=by
 have W:=A6p (172 * l.length)
 have V:=B2L (172 * l.length)
 obtain⟨r,I⟩:∃r,r=128-qn (172 * l.length):=⟨_,rfl⟩
 have J:qn (172 * l.length)+r=128:=by unfold qn at I⊢;omega
 rw[<-I]
 have h:=A1L (qn (172 * l.length)) (bN l l.length * 2^pad (172 * l.length)) r
 unfold V1 X5 wN7
 rw[J,Nat.mul_assoc,C2d (pad (172 * l.length)) r (1024-172 * l.length) (by omega)]at h
 rw[h]
theorem C2R(l:List En)(I:l.length<=5)(h:∀e∈l,okE e):wN7 l<256^128:=by
 unfold wN7
 refine Nat.lt_of_lt_of_eq (Nat.mul_lt_mul_of_pos_right (C46 l h _ (Nat.le_refl _)) (Nat.two_pow_pos _)) ?_
 rw[<-Nat.pow_add,show(256:Nat)^128=2^(8 * 128)from(Nat.pow_mul 2 8 128).symm]
 congr 1
 omega
theorem B3t(l:List En)(I:l.length<=5)(h:∀e∈l,okE e):byN (X5 l)=wN7 l:=B3k _ _ (C2R l I h)
theorem C2S(l:List En)(h:∀e∈l,okE e)(U:l.length<=5)(k:Nat)(J:k<=l.length):wN7 l/2^(1024-172 * k)=bN l k:=by
 unfold wN7
 obtain⟨j,I⟩:∃j,l.length=k+j:=⟨l.length-k,by omega⟩
 rw[show 1024-172 * k=(1024-172 * l.length)+172 * j by omega,A8A,I,B3r l h j k (by omega)]
theorem B4E(l:List En)(h:∀e∈l,okE e)(J:l.length<=5)(k:Nat)(I:k<l.length)(c n t:Nat)(U:c+n+t=172):C4 128 (wN7 l) (172 * k+c) n=sN (bN l k) l[k] 16/2^t%2^n:=by
 unfold C4
 rw[<-A9K (List.getElem?_eq_getElem I),<-C2S l h J (k+1) I,Nat.div_div_eq_div_mul,<-Nat.pow_add]
 congr 3
 omega
theorem C0P(l:List En)(V:l.length<=5)(k:Nat)(J:l.length<=k)(U:k<5):C4 128 (wN7 l) (172 * k) 5=0:=by
 unfold C4 wN7
 obtain⟨t,I⟩:∃t,1024-172 * l.length=(8 * 128-172 * k-5)+(5+t):=⟨172 * k-172 * l.length,by omega⟩
 rw[I,Nat.pow_add,<-Nat.mul_assoc,Nat.mul_comm (bN l l.length),Nat.mul_assoc,Nat.mul_div_cancel_left _ (Nat.two_pow_pos _),Nat.pow_add,<-Nat.mul_assoc,Nat.mul_comm _ (2^t),<-Nat.mul_assoc,Nat.mul_mod_left]
def rdN(V k:Nat):Nat:=C4 128 V (172 * k) 5
def rdS(V k n:Nat):ByteArray:=⟨(A1K 128 V (172 * k+44) n).toArray⟩
def rdE(V k n:Nat):En:=⟨rdS V k n,(C4 128 V (172 * k+5) 6:Nat),(C4 128 V (172 * k+11) 31:Nat),(C4 128 V (172 * k+42) 2:Nat)⟩
def prP(V k:Nat):Option En:=if rdN V k=0 then none else some (rdE V k (min (rdN V k) 16))
def ptP(V n:Nat):List En:=(List.range n).filterMap (prP V)
theorem B88(V n:Nat):ptP V (n+1)=ptP V n++(prP V n).toList:=by
 unfold ptP;rw[List.range_succ,List.filterMap_append];cases h:prP V n<;>simp[h]
theorem B89(l:List En)(h:∀e∈l,okE e)(X:l.length<=5)(k:Nat)(V:k<l.length):rdS (wN7 l) k (l[k].s.size)=l[k].s:=by
 have W:=h _ (List.getElem_mem V)
 have Y:=A2q W
 obtain⟨e,U⟩:∃e,e=l[k]:=⟨_,rfl⟩
 rw[<-U]at W Y⊢
 apply A0i
 show A1K 128 (wN7 l) (172 * k+44) e.s.size=_
 apply List.ext_getElem
 ·rw[A0D];rfl
 ·intro j I Z
  rw[A0D]at I
  simp only[A1K,List.getElem_map,List.getElem_range]
  unfold B3h
  rw[show 172 * k+44+8 * j=172 * k+(44+8 * j)by omega,B4E l h X k V (44+8 * j) 8 (8 * (15-j)) (by omega),<-U]
  have J:=A9J (bN l k) e (15-j) (j+1)
  rw[show j+1+(15-j)=16 by omega]at J
  rw[J]
  show UInt8.ofNat ((sN (bN l k) e j * 2^8+nmB e.s j)%2^8)=_
  rw[Nat.mul_comm,Nat.mul_add_mod,Nat.mod_eq_of_lt (B3q _ _),nmB,dif_pos I]
  simp
  rfl
theorem C0R(l:List En)(h:∀e∈l,okE e)(hl:l.length<=5)(k:Nat)(W:k<l.length):rdN (wN7 l) k=l[k].s.size/\((C4 128 (wN7 l) (172 * k+5) 6:Nat):Int)=l[k].i/\((C4 128 (wN7 l) (172 * k+11) 31:Nat):Int)=l[k].g/\((C4 128 (wN7 l) (172 * k+42) 2:Nat):Int)=l[k].k:=by
 have I:=h _ (List.getElem_mem W)
 have hs:=A2q I
 obtain⟨e,V⟩:∃e,e=l[k]:=⟨_,rfl⟩
 have U:=A9J (bN l k) e 16 0
 rw[Nat.zero_add]at U
 have B:∀c n t,c+n+t=44->C4 128 (wN7 l) (172 * k+c) n=sN (bN l k) e 0/2^t%2^n:=λc n t hc=>by
  rw[B4E l h hl k W c n (8 * 16+t) (by omega),<-V,Nat.pow_add,<-Nat.div_div_eq_div_mul,U]
 have J:=B 0 5 39 rfl
 have X:=B 5 6 33 rfl
 have Y:=B 11 31 2 rfl
 have Z:=B 42 2 0 rfl
 rw[Nat.add_zero]at J
 rw[<-V]at I hs⊢
 obtain⟨_,h1,h2,h3,h4,h5,h6⟩:=I
 unfold rdN
 rw[J,X,Y,Z]
 simp only[sN]
 refine⟨?_,?_,?_,?_⟩<;>omega
theorem B8A(l:List En)(h:∀e∈l,okE e)(J:l.length<=5)(k:Nat)(X:k<5):prP (wN7 l) k=l[k]? :=by
 by_cases I:k<l.length
 ·obtain⟨U,V,h3,W⟩:=C0R l h J k I
  have Y:=A2q (h _ (List.getElem_mem I))
  unfold prP rdE
  rw[U,if_neg (by omega),Nat.min_eq_left (by omega),B89 l h J k I,V,h3,W,List.getElem?_eq_getElem I]
 ·rw[List.getElem?_eq_none (by omega)]
  unfold prP rdN
  rw[C0P l J k (by omega) X,if_pos rfl]
theorem B1u(l:List En)(I:l.length<=5):(List.range 5).filterMap (λk=>l[k]?)=l:=by
 match l,I with
 |[],_=>rfl
 |[_],_=>rfl
 |[_,_],_=>rfl
 |[_,_,_],_=>rfl
 |[_,_,_,_],_=>rfl
 |[_,_,_,_,_],_=>rfl
theorem B1v{f g:Nat->Option En}(h:∀k,k<5->f k=g k):(List.range 5).filterMap f=(List.range 5).filterMap g:=by
 simp only[show List.range 5=[0,1,2,3,4]from rfl,List.filterMap_cons,List.filterMap_nil,h 0 (by decide),h 1 (by decide),h 2 (by decide),h 3 (by decide),h 4 (by decide)]
theorem B8B(l:List En)(h:∀e∈l,okE e)(I:l.length<=5):ptP (byN (X5 l)) 5=l:=by
 rw[B3t l I h]
 exact(B1v (B8A l h I)).trans (B1u l I)
def chk(l:List En)(i:Nat):List En:=(l.drop (5 * i)).take 5
def nCh(l:List En):Nat:=(l.length+4)/5
def H6(l:List En):List (List Nat):=(List.range (nCh l)).map λi=>X5 (chk l i)
theorem B8C(l:List En)(i:Nat):(chk l i).length<=5:=by unfold chk;rw[List.length_take];omega
theorem B8D{l:List En}(h:∀e∈l,okE e)(i:Nat):∀e∈chk l i,okE e:=λe I=>h e (List.mem_of_mem_drop (List.mem_of_mem_take I))
theorem C47(l:List En):∀n,(List.range n).flatMap (chk l)=l.take (5 * n)
 |0=>by simp
 |n+1=>by
  rw[List.range_succ,List.flatMap_append,C47 l n,show 5 * (n+1)=5 * n+5 by omega,List.take_add]
  simp[chk]
theorem M9(l:List En):(H6 l).length=nCh l:=by simp[H6]
theorem A0U(l:List En):∀b∈H6 l,b.length=128/\∀x∈b,x<256:=by
 intro b I
 obtain⟨i,_,rfl⟩:=List.mem_map.1 I
 exact⟨A8c _,B60 _⟩
theorem B3w(f:Nat->List En)(l:List En)(h:∀e∈l,okE e)(I:∀m:List En,(∀e∈m,okE e)->m.length<=5->f (byN (X5 m))=m):(H6 l).flatMap (λb=>f (byN b))=l:=by
 unfold H6
 rw[List.flatMap_map]
 have:(List.range (nCh l)).flatMap (λi=>f (byN (X5 (chk l i))))=(List.range (nCh l)).flatMap (chk l):=by
  congr 1
  funext i
  exact I _ (B8D h i) (B8C l i)
 rw[this,C47,List.take_of_length_le (by unfold nCh;omega)]
noncomputable def bE(l:List En):Int:=if S6 l then(if l.length<=24 then 0 else 8)else 2
noncomputable def bL(l:List En):List (List Nat):=if bE l=0 then H6 l else []
theorem B4F{l:List En}(h:bE l=0):S6 l/\l.length<=24:=by
 unfold bE at h
 split at h
 ·split at h
  ·exact⟨‹_›,‹_›⟩
  ·exact absurd h (by decide)
 ·exact absurd h (by decide)
theorem B8E{l:List En}(h:S6 l)(k:l.length<=24):bE l=0:=by unfold bE;rw[if_pos h,if_pos k]
theorem A9L{l:List En}(h:S6 l)(k:24<l.length):bE l=8:=by unfold bE;rw[if_pos h,if_neg (by omega)]
theorem B8F{l:List En}(h:¬S6 l):bE l=2:=by unfold bE;rw[if_neg h]
theorem B4G{l:List En}(h:bE l=0):bL l=H6 l:=by unfold bL;rw[if_pos h]
theorem C2f{l:List En}(h:bE l≠0):bL l=[]:=by unfold bL;rw[if_neg h]
theorem B3x(l:List En):∀b∈bL l,b.length=128/\∀x∈b,x<256:=by
 unfold bL
 split
 ·exact A0U l
 ·simp
def eP(r:List (List Nat)):List En:=r.flatMap λb=>ptP (byN b) 5
theorem C0T{l:List En}(h:S6 l):eP (H6 l)=l:=B3w (λV=>ptP V 5) l h.all λm J I=>B8B m J I
def B8G(r:List (List Nat)):Prop:=∀b∈r,b.length=128
def okP(r:List (List Nat)):Prop:=r.length<=5/\B8G r/\bE (eP r)=0/\H6 (eP r)=r
theorem B3y{l:List En}(h:bE l=0):okP (H6 l)/\eP (H6 l)=l:=by
 have I:=B4F h
 have e:=C0T I.1
 exact⟨⟨by rw[M9];unfold nCh;omega,λb J=>(A0U l b J).1,by rw[e];exact h,by rw[e]⟩,e⟩
open Classical in
noncomputable def A5c(r:List (List Nat)):List En:=if okP r then eP r else []
open Classical in
noncomputable def B1w(r:List (List Nat)):Int:=if okP r then 0 else 4
theorem A6h{r:List (List Nat)}(h:okP r):A5c r=eP r/\B1w r=0:=by unfold A5c B1w;rw[if_pos h,if_pos h];exact⟨rfl,rfl⟩
theorem B3z{r:List (List Nat)}(h:¬okP r):A5c r=[]/\B1w r=4:=by unfold A5c B1w;rw[if_neg h,if_neg h];exact⟨rfl,rfl⟩
end
end Go.Proofs.YtbefmjiclpobjaaGreat
