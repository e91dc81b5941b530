import Derived.Test.YtbefmjiclpobjaaGreatMj06
import Derived.Deep.WholeRow
import Derived.Great.BuildSlice
import Derived.Great.FillDense
import Derived.Deep.QuietTactic
import Derived.BigQuiet
import Derived.Test.YtbefmjiclpobjaaGreatMj00
namespace Go.Proofs.YtbefmjiclpobjaaGreat
set_option maxHeartbeats 1600000
set_option maxRecDepth 10000
section
open Go.RowKit
def zS:Array Value:=(List.replicate 128 (u8 0)).toArray
def zW:Array Value:=(.int .i64 0::List.replicate 128 (u8 0)).toArray
theorem A0S:zS.size=128:=by simp[zS]
theorem A5Z:zW.size=129:=by simp[zW]
theorem A6F:(Tryz.prog.info? 129).map (λi=>(i.zero,i.size,i.bytes))=some (some (.agg zS),128,128):=by kernel_rfl
theorem A2M:(Tryz.prog.info? 131).map (λi=>(i.zero,i.size,i.bytes))=some (some (.agg zW),129,136):=by kernel_rfl
theorem A1G:(Tryz.prog.info? 129).map (·.size)=some 128:=by kernel_rfl
theorem A4S:(Tryz.prog.info? 131).map (·.size)=some 129:=by kernel_rfl
section
variable {ops:Array Oper} {rest:List Oper} {o:Oper} {a:Act} {w:World} {Q:Exit->Act->World->Prop}
theorem A2g{t:TypeId}{C:Array Value}{s b:Nat}(h:(Tryz.prog.info? t).map (λi=>(i.zero,i.size,i.bytes))=some (some (.agg C),s,b)):(zeroValue t).run Tryz.prog w= .ok (.agg C) w:=by
 obtain⟨i,hi,I,_⟩:=info_parts h
 simp[zeroValue,typeInfo,hi,I]
theorem A4g{t:TypeId}{C:Array Value}{s b:Nat}(I:o.guard=none)(J:o.op= .alloc t)(U:(Tryz.prog.info? t).map (λi=>(i.zero,i.size,i.bytes))=some (some (.agg C),s,b))
 (h:wpList Tryz.prog ops Q rest (a.put o.dst (.pointer (some ⟨w.heap.size,0,none⟩))) (w.alloc (.cells C t))):wpList Tryz.prog ops Q (o::rest) a w:=by
 refine wpList_plain I λK hK=>?_
 unfold Oper.wp execOp
 simp[J,Instr.alloc,A2g U,newVar,newRow,Value.cells,Result.andThen]
 exact hK _ _ h
theorem A5N(I:o.guard=none)(J:o.op= .alloc 129)(h:wpList Tryz.prog ops Q rest (a.put o.dst (.pointer (some ⟨w.heap.size,0,none⟩))) (w.alloc (.cells zS 129))):wpList Tryz.prog ops Q (o::rest) a w:=
 A4g I J A6F h
theorem A2h(I:o.guard=none)(J:o.op= .alloc 131)(h:wpList Tryz.prog ops Q rest (a.put o.dst (.pointer (some ⟨w.heap.size,0,none⟩))) (w.alloc (.cells zW 131))):wpList Tryz.prog ops Q (o::rest) a w:=
 A4g I J A2M h
theorem A0v{t:TypeId}{C D:Array Value}{s:Nat}(W:o.guard=none)(x y:Operand)(X:o.op= .store t x y)(g:Nat)(V:g=w.heap.size)(Z:a.eval x= .pointer (some ⟨g,0,none⟩))(hy:a.eval y= .agg D)
 (Y:(Tryz.prog.info? t).map (·.size)=some s) (I:D.size=s) (U:C.size=s) (J:D.all (·.oneCell')=true)
 (h:wpList Tryz.prog ops Q rest (a.put o.dst undef) (w.alloc (.cells D t))):wpList Tryz.prog ops Q (o::rest) a (w.alloc (.cells C t)):=by
 subst V
 refine wpList_store_row W t x y X w.heap.size D Z hy t C (Go.heap_alloc_new w _) (by rw[Y,I]) (by rw[U,I]) J ?_
 rw[World.setRow_alloc_new]
 exact h
theorem A2i(l:List Nat):((l.map u8).toArray).all (·.oneCell')=true:=all_oneCell_toArray (T5 l)
theorem B3a(q:Nat×List Nat):((D4 q).toArray).all (·.oneCell')=true:=all_oneCell_toArray (by
 intro v hv
 rcases List.mem_cons.1 hv with rfl|hv
 ·rfl
 ·exact T5 _ v hv)
theorem A5P(J:o.guard=none)(x y:Operand)(V:o.op= .store 129 x y)(g:Nat)(I:g=w.heap.size)(l:List Nat)(U:l.length=128)(W:a.eval x= .pointer (some ⟨g,0,none⟩))(X:a.eval y= .agg (l.map u8).toArray)
 (h:wpList Tryz.prog ops Q rest (a.put o.dst undef) (w.alloc (.cells (l.map u8).toArray 129))):wpList Tryz.prog ops Q (o::rest) a (w.alloc (.cells zS 129)):=
 A0v J x y V g I W X A1G (by simpa using U) A0S (A2i l) h
theorem A2j(J:o.guard=none)(x y:Operand)(V:o.op= .store 131 x y)(g:Nat)(I:g=w.heap.size)(q:Nat×List Nat)(U:q.2.length=128)(W:a.eval x= .pointer (some ⟨g,0,none⟩))(X:a.eval y= .agg (D4 q).toArray)
 (h:wpList Tryz.prog ops Q rest (a.put o.dst undef) (w.alloc (.cells (D4 q).toArray 131))):wpList Tryz.prog ops Q (o::rest) a (w.alloc (.cells zW 131)):=
 A0v J x y V g I W X A4S (by simpa using P3 U) A5Z (B3a q) h
theorem A2k(U:o.guard=none)(x:Operand)(W:o.op= .load 129 x)(b I:Nat)(l:List Nat)(V:l.length=128)(J:w.rangeAt b I (l.map u8))(X:a.eval x= .pointer (some ⟨b,I,none⟩))
 (h:wpList Tryz.prog ops Q rest (a.put o.dst (.agg (l.map u8).toArray)) w):wpList Tryz.prog ops Q (o::rest) a w:=
 wpList_load_mid U 129 x W b I X (l.map u8) _ J Tryz.underlying129 rfl (by rw[A1G,List.length_map,V]) h
theorem A3l(U:o.guard=none)(x:Operand)(W:o.op= .load 131 x)(b I:Nat)(q:Nat×List Nat)(V:q.2.length=128)(J:w.rangeAt b I (D4 q))(X:a.eval x= .pointer (some ⟨b,I,none⟩))
 (h:wpList Tryz.prog ops Q rest (a.put o.dst (.agg (D4 q).toArray)) w):wpList Tryz.prog ops Q (o::rest) a w:=
 wpList_load_mid U 131 x W b I X (D4 q) _ J Tryz.underlying131 rfl (by rw[A4S,P3 V]) h
theorem C29(I:o.guard=none)(x:Operand)(J:o.op= .sliceToArrayPointer 129 x)(A:Option Addr)(c:Nat)(U:a.eval x= .slice A 128 c)
 (h:wpList Tryz.prog ops Q rest (a.put o.dst (.pointer A)) w):wpList Tryz.prog ops Q (o::rest) a w:=by
 refine wpList_plain I λK hK=>?_
 unfold Oper.wp execOp
 simp[J,U,Instr.arrayAt,run_underlying Tryz.underlying129,Result.andThen]
 exact hK _ _ h
theorem A51(i:Nat)(l:List Nat)(U:l.length=128):Tryz.prog.built 131 [(0,.int .i64 (i:Int)),(1,.agg (l.map u8).toArray)]=some (D4 (i,l)).toArray:=by
 have V:Tryz.prog.built 131 [(0,.int .i64 (i:Int)),(1,.agg (l.map u8).toArray)]=Instr.fill ((#[(0,1),(1,128)]:Array (Nat×Nat))[·]?) zW [(0,.int .i64 (i:Int)),(1,.agg (l.map u8).toArray)]:=by
  unfold Program.built
  have X:(Tryz.prog.info? 131).map (·.zero)=some (some (.agg zW)):=by kernel_rfl
  obtain⟨it,hi,hz⟩:=Option.map_eq_some_iff.1 X
  rw[hi,Tryz.underlying131]
  simp only[hz]
  rfl
 rw[V]
 have e2:(l.map u8).toArray.size=128:=by simpa using U
 have J:=A5Z
 clear V
 generalize zW=ZW at J⊢
 have Z:∀k,(ZW.setIfInBounds 0 (.int .i64 (i:Int)))[k]? =if k=0 then some (.int .i64 (i:Int))else ZW[k]? :=λk=>by
  rw[Array.getElem?_setIfInBounds]
  by_cases I:0=k
  ·rw[if_pos I,if_pos (by omega),if_pos I.symm]
  ·rw[if_neg I,if_neg (λh=>I h.symm)]
 have W:Instr.fill ((#[(0,1),(1,128)]:Array (Nat×Nat))[·]?) ZW [(0,.int .i64 (i:Int)),(1,.agg (l.map u8).toArray)]=some ((l.map u8).toArray.zipIdx.foldl (λcs (x:Value×Nat)=>cs.setIfInBounds (1+x.2) x.1) (ZW.setIfInBounds 0 (.int .i64 (i:Int)))):=by
  simp[Instr.fill,Value.cells,J,U]
 rw[W]
 congr 1
 rw[<-Array.foldl_toList,Array.toList_zipIdx]
 obtain⟨h3,Y⟩:=Great.foldl_set 1 ((l.map u8).toArray).toList 0 (ZW.setIfInBounds 0 (.int .i64 (i:Int)))
 apply Array.ext_getElem?
 intro k
 rw[Y k,Z k,Array.size_setIfInBounds,J]
 simp only[List.length_map,U,List.getElem?_toArray,D4]
 rcases k with _|k
 ·rw[if_neg (by omega),if_pos rfl];rfl
 ·by_cases I:k<128
  ·rw[if_pos (by omega),List.getElem?_cons_succ,show k+1-(1+0)=k by omega]
  ·rw[if_neg (by omega),if_neg (by omega),List.getElem?_cons_succ,List.getElem?_eq_none (by simp;omega),Array.getElem?_eq_none (by rw[J];omega)]
theorem A6G(J:o.guard=none)(x y:Operand)(U:o.op= .build 131 #[(0,x),(1,y)])(i:Nat)(l:List Nat)(I:l.length=128)(V:a.eval x= .int .i64 (i:Int))(W:a.eval y= .agg (l.map u8).toArray)
 (h:wpList Tryz.prog ops Q rest (a.put o.dst (.agg (D4 (i,l)).toArray)) w):wpList Tryz.prog ops Q (o::rest) a w:=by
 have e:((#[(0,x),(1,y)]:Array (Nat×Operand)).map λ(i,x)=>(i,a.eval x)).toList=[(0,.int .i64 (i:Int)),(1,.agg (l.map u8).toArray)]:=by simp[V,W]
 refine wpList_build J 131 _ U (by rw[e,A51 i l I];rfl) ?_
 rw[e,A51 i l I]
 exact h
theorem A2l(q:Nat×List Nat)(U:q.2.length=128):(Instr.buildSlice 97 1 #[(0,.agg (D4 q).toArray)]).run Tryz.prog w= .ok (.slice (some ⟨w.heap.size,0,none⟩) 1 1) (w.alloc (.cells (D4 q).toArray 131)):=by
 obtain⟨W,J,V,I,_⟩:=info_parts A2M
 refine run_buildSlice w 97 131 1 _ _ W _ Tryz.underlying97 J V (by rw[I];decide) (by rw[I];decide) ?_
 rw[I]
 have h:=Great.fill_whole (s:=129) (by decide) [Value.agg (D4 q).toArray] ((Array.range (1 * 129)).map ((Value.agg zW).cells[·%(Value.agg zW).cells.size]!)) (λv hv=>by
  rw[List.mem_singleton]at hv
  subst hv
  simpa[Value.cells]using P3 U) (by simp)
 simpa[Value.cells]using h
end
end
section
open Go.RowKit
theorem A1S{w:World}{ops:Array Oper}{o:Oper}{a:Act}{K:Act->World->Prop}{Q:Exit->Act->World->Prop}{E:Prop}(aA:o.guard=none)(s x:Operand)(t e:TypeId)
 (ho:o.op= .call { callee:=.builtin .append,args:= #[s,x],argTypes:= #[t,t] }) (ht:Tryz.prog.underlying t=some (.slice e)) {z:Value} {I W:Nat} (hi:(Tryz.prog.info? e).map (λi=>(i.zero,i.size,i.bytes))=some (some z,I,W)) (aJ:z.cells.size=I) (aF:0<I)
 {v:Value} {n:Nat} {X:List Value} (hs:a.eval s=v) (aD:w.ownsRow 0 e I v n X) (V:Addr) (m c:Nat) (hx:a.eval x= .slice (some V) m c) (U:List Value) (hl:U.length=m * I) (aC:∀j u,U[j]? =some u->w.cell? (V.add j)=some u) (h1:∀u∈U,u.oneCell'=true)
 (h63:n+m<=maxLen) (hb:(n+m) * W<=140737488355328)
 (h:∀J w',w'.ownsRow 0 e I J (n+m) (X++U)->w.grownBy w' v.ownBlock->(J.ownBlock=v.ownBlock\/J.ownBlock=some w.heap.size)->K (a.put o.dst J) w'):
 if Region.wanted o (yielded ops a.tmps)=true then Oper.wp Tryz.prog o a w K Q else E:=by
 rw[if_pos (by simp[Region.wanted,aA])]
 obtain⟨i0,aB,aG,aH,aI⟩:=info_parts hi
 obtain⟨J,w',aE,Y,h3,_,Z⟩:=run_append_own_at (P:=Tryz.prog) w 0 t o.type e i0 z I W ht aB aG aH aI aJ aF v n X aD V m c U hl aC h1 h63 hb (Nat.zero_le _)
 unfold Oper.wp execOp
 simp only[ho,resolve,invoke,builtin,Sem.run_bind,Sem.run_pure,Result.andThen_ok,List.map_toArray,List.map_cons,List.map_nil,hs,hx,aE]
 exact h J w' Y h3 Z
section
variable {ops:Array Oper} {o:Oper} {a:Act} {w:World} {Q:Exit->Act->World->Prop} {K:Act->World->Prop} {E:Prop}
theorem A6H(U:o.guard=none)(x:Operand)(W:o.op= .load 129 x)(b I:Nat)(l:List Nat)(V:l.length=128)(J:w.rangeAt b I (l.map u8))(X:a.eval x= .pointer (some ⟨b,I,none⟩))
 (h:K (a.put o.dst (.agg (l.map u8).toArray)) w):if Region.wanted o (yielded ops a.tmps)=true then Oper.wp Tryz.prog o a w K Q else E:=by
 rw[if_pos (by simp[Region.wanted,U])]
 exact wp_load_mid 129 x W b I X (l.map u8) _ J Tryz.underlying129 rfl (by rw[A1G,List.length_map,V]) h
theorem A5Q(U:o.guard=none)(x y:Operand)(V:o.op= .store 129 x y)(b I:Nat)(l:List Nat)(J:l.length=128)(W:w.there b I 128)(X:a.eval x= .pointer (some ⟨b,I,none⟩))(Y:a.eval y= .agg (l.map u8).toArray)
 (h:K (a.put o.dst undef) (w.setCells b I (l.map u8))):if Region.wanted o (yielded ops a.tmps)=true then Oper.wp Tryz.prog o a w K Q else E:=by
 rw[if_pos (by simp[Region.wanted,U])]
 exact wp_store_mid 129 x y V b I _ X Y (by simpa[J]using W) (by rw[A1G];simp[J]) (A2i l) (by simpa using h)
theorem A0r(I:o.guard=none)(x:Operand)(U:o.op= .buildSlice 97 1 #[(0,x)])(q:Nat×List Nat)(J:q.2.length=128)(V:a.eval x= .agg (D4 q).toArray)
 (h:K (a.put o.dst (.slice (some ⟨w.heap.size,0,none⟩) 1 1)) (w.alloc (.cells (D4 q).toArray 131))):if Region.wanted o (yielded ops a.tmps)=true then Oper.wp Tryz.prog o a w K Q else E:=by
 rw[if_pos (by simp[Region.wanted,I])]
 unfold Oper.wp execOp
 simp only[U,List.map_toArray,List.map_cons,List.map_nil,V,Sem.run_bind,A2l q J,Result.andThen_ok]
 exact h
end
theorem A95(n:Nat)(X:n<=4096)(w:World):(Instr.makeSlice 96 (.int .i64 (n:Int)) (.int .i64 (n:Int))).run Tryz.prog w= .ok (.slice (some ⟨w.heap.size,0,none⟩) n n) (w.alloc (.cells (madeCells zS (n * 128)) 129)):=by
 obtain⟨W,J,V,U,I⟩:=info_parts A6F
 have h:=run_make (P:=Tryz.prog) w 96 129 W _ Tryz.underlying96 J V .i64 .i64 n n (by omega) (Int.le_refl _) (by rw[I];omega) (by omega)
 simpa[U,Value.cells]using h
theorem C4k(k:Nat)(I:k<128):zS[k]! =u8 0:=by
 have h:zS[k]? =some (u8 0):=by
  simp only[zS,List.getElem?_toArray,List.getElem?_replicate,if_pos I]
 rw[getElem!_def,h]
theorem C06(m k:Nat)(J:k<m):(madeCells zS m)[k]? =some (u8 0):=by
 have I:(Array.range m)[k]? =some k:=by rw[Array.getElem?_eq_getElem (by simpa using J)];simp
 simp only[madeCells,Array.getElem?_map,I,Option.map_some]
 rw[A0S,C4k _ (Nat.mod_lt _ (by decide))]
theorem A2N{w:World}{g n:Nat}(h:C3 w g 129 (madeCells zS (n * 128))):Rows w g 129 (List.replicate n (List.replicate 128 0)):=by
 refine⟨⟨_,h,by rw[size_madeCells];simp⟩,λi r I=>?_⟩
 have hi:i<n:=by
  have:=(List.getElem?_eq_some_iff.1 I).1
  simpa using this
 rw[List.getElem?_replicate,if_pos hi]at I
 injection I with I
 subst I
 refine⟨by simp,λj v hv=>?_⟩
 rw[List.map_replicate,List.getElem?_replicate]at hv
 split at hv
 ·injection hv with hv
  subst hv
  rw[h.cell]
  refine C06 _ _ ?_
  have:(i+1) * 128<=n * 128:=Nat.mul_le_mul_right _ hi
  rw[Nat.succ_mul]at this
  omega
 ·cases hv
theorem C2A(n:Nat)(hn:1<=n)(aB:n<=4096)(w:World)(z I J:Nat)(hz:z=w.heap.size)(hg:(I=z/\J=z+1)\/(I=z+1/\J=z)):
 Dk (((w.alloc (.cells (madeCells zS (n * 128)) 129)).alloc (.cells (madeCells zS (n * 128)) 129)).alloc (.cells #[.slice (some ⟨I,0,none⟩) n n,.slice (some ⟨J,0,none⟩) n n,.slice none 0 0,.bool false,.bool false,.int .i64 0] 99))
  (λk=>z<=k/\k<z+3) (z+2) n (newS n)/\
 B0 B5 w (λk=>z<=k/\k<z+3) (((w.alloc (.cells (madeCells zS (n * 128)) 129)).alloc (.cells (madeCells zS (n * 128)) 129)).alloc (.cells #[.slice (some ⟨I,0,none⟩) n n,.slice (some ⟨J,0,none⟩) n n,.slice none 0 0,.bool false,.bool false,.int .i64 0] 99)):=by
 subst hz
 obtain⟨C,U⟩:∃C,C=madeCells zS (n * 128):=⟨_,rfl⟩
 have Y:C3 (w.alloc (.cells C 129)) w.heap.size 129 C:=C3.new _ _ _
 have Z:C3 ((w.alloc (.cells C 129)).alloc (.cells C 129)) (w.heap.size+1) 129 C:=by
  have:=C3.new (w.alloc (.cells C 129)) 129 C
  simpa using this
 have aA:∀D,C3 (((w.alloc (.cells C 129)).alloc (.cells C 129)).alloc (.cells D 99)) (w.heap.size+2) 99 D:=λD=>by
  have:=C3.new ((w.alloc (.cells C 129)).alloc (.cells C 129)) 99 D
  simpa using this
 rw[<-U]
 refine⟨⟨C04 n,I,J,.slice none 0 0,aA _,hn,aB,by simp[newS],by simp[newS,U9],λq hq=>by simp[newS]at hq,?_,?_,?_,by omega,by omega,by omega,by omega,⟨_,aA _⟩⟩,?_⟩
 ·have V:=A2N (U ▸ (Y.alloc (.cells C 129)).alloc (.cells #[.slice (some ⟨I,0,none⟩) n n,.slice (some ⟨J,0,none⟩) n n,.slice none 0 0,.bool false,.bool false,.int .i64 0] 99))
  have W:=A2N (U ▸ Z.alloc (.cells #[.slice (some ⟨I,0,none⟩) n n,.slice (some ⟨J,0,none⟩) n n,.slice none 0 0,.bool false,.bool false,.int .i64 0] 99))
  rw[<-U]at V W
  rcases hg with⟨rfl,rfl⟩|⟨rfl,rfl⟩
  ·exact V
  ·exact W
 ·have V:=A2N (U ▸ (Y.alloc (.cells C 129)).alloc (.cells #[.slice (some ⟨I,0,none⟩) n n,.slice (some ⟨J,0,none⟩) n n,.slice none 0 0,.bool false,.bool false,.int .i64 0] 99))
  have W:=A2N (U ▸ Z.alloc (.cells #[.slice (some ⟨I,0,none⟩) n n,.slice (some ⟨J,0,none⟩) n n,.slice none 0 0,.bool false,.bool false,.int .i64 0] 99))
  rw[<-U]at V W
  rcases hg with⟨rfl,rfl⟩|⟨rfl,rfl⟩
  ·exact W
  ·exact V
 ·exact Sl.nilF _ _ (λk X=>by simp;omega) _ _
 ·exact⟨rfl,rfl,rfl,by simp;omega,λk X _=>by rw[Below.heap_alloc _ _ _ (by simp;omega),Below.heap_alloc _ _ _ (by simp;omega),Below.heap_alloc _ _ _ X],λk X=>.inr X.1⟩
theorem C2c(n:Nat)(hn:1<=n)(Z:n<=4096)(w:World):
 Calls Tryz.prog 10 #[.int .i64 (n:Int)] w λe w'=>∃d F,e= .returned (.tuple #[.pointer (some ⟨d,0,none⟩),.int .i64 0])/\Dk w' F d n (newS n)/\B0 B5 w F w':=by
 have h1:(1:Int)<=(n:Int):=by omega
 have h2:(n:Int)<=4096:=by omega
 obtain⟨C,U⟩:∃C,C=madeCells zS (n * 128):=⟨_,rfl⟩
 have aA:=A95 n Z
 rw[<-U]at aA
 have V:∀w:World,∀z I J:Nat,z=w.heap.size->((I=z/\J=z+1)\/(I=z+1/\J=z))->_:=λw z I J=>C2A n hn Z w z I J
 rw[<-U]at V
 have Y:=C6x V
 clear V U
 go_enter Tryz.func10,Tryz.ntmps10
 go_wp2_with fail
 go_region
 ·go_wp2
  go_ret2
  obtain⟨W,X⟩:=Y.out w _ _ _ rfl (.inl ⟨rfl,rfl⟩)
  exact⟨_,_,rfl,W.drewN 1,X.drew⟩
 ·go_wp2
  go_ret2
  obtain⟨W,X⟩:=Y.out w _ _ _ rfl (.inr ⟨rfl,rfl⟩)
  exact⟨_,_,rfl,W.drewN 1,X.drew⟩
theorem C2B(d gl X n:Nat)(vQ:Value)(F:Nat->Prop)(R:List (List Nat))(s:DS)(i:Nat)(w:World)(h:DkR w F d gl X vQ n R s)(hi:i<n):
 Calls Tryz.prog 66 #[.pointer (some ⟨d,0,none⟩),.int .i64 (i:Int)] w λe w'=>∃z,e= .returned (.tuple #[.slice (some ⟨z,0,none⟩) 128 128,.int .i64 0])/\C3 w' z 129 ((R.getD i []).map u8).toArray/\(R.getD i []).length=128/\B0 B5 w (λk=>k=z) w':=by
 have W:=h.c0
 have c1:=h.c1
 have aB:(0:Int)<=(i:Int):=by omega
 have aC:(i:Int)<(n:Int):=by omega
 have I:i<R.length:=by rw[h.b.lenR];exact hi
 have V:=h.b.reads.at_ I
 have U:(R.getD i []).length=128:=by
  rw[List.getD_eq_getElem?_getD,List.getElem?_eq_getElem I]
  exact(h.b.reads.row i _ (List.getElem?_eq_getElem I)).1
 obtain⟨r,aA⟩:∃r,r=R.getD i []:=⟨_,rfl⟩
 rw[<-aA]at V U⊢
 have HR:=C6x V
 have J:=C6x U
 have hz:C3 (w.alloc (.cells (r.map u8).toArray 129)) w.heap.size 129 (r.map u8).toArray:=C3.new _ _ _
 have Y:B0 B5 w (λk=>k=w.heap.size) (w.alloc (.cells (r.map u8).toArray 129)):=
  ⟨rfl,rfl,rfl,by simp,λk Z _=>Below.heap_alloc _ _ _ Z,λk Z=>.inr (by omega)⟩
 have HZ:=C6x hz
 have HA:=C6x Y
 clear h V U aA I hz Y
 go_enter Tryz.func66,Tryz.ntmps66
 go_wp2_with (first
  |(go_at_call 58;refine(A1F _ _ _ _ W).mono ?_;rintro e w1 ⟨rfl,rfl⟩)
  |(go_at_call 128;refine(A82 _ _ _ _ _ W).mono ?_;rintro e w1 ⟨rfl,rfl⟩;rw[decide_eq_true (show 0<=(i:Int)/\(i:Int)<(n:Int)from⟨aB,aC⟩)])
  |(refine A2k rfl _ rfl X (i * 128) r J.out HR.out rfl ?_)
  |(refine A5N rfl rfl ?_)
  |(refine A5P rfl _ _ rfl _ rfl r J.out rfl rfl ?_)
  |fail)
 go_ret2
 exact⟨_,rfl,HZ.out,J.out,HA.out⟩
theorem B7X(d U n:Nat)(i:Int)(w:World)(I:w.cell? ⟨d,0,none⟩=some (.slice (some ⟨U,0,none⟩) n n))(hi:¬(0<=i/\i<(n:Int))):
 Calls Tryz.prog 66 #[.pointer (some ⟨d,0,none⟩),.int .i64 i] w λe w'=>e= .returned (.tuple #[.slice none 0 0,.int .i64 2])/\w=w':=by
 have J:=C6x hi
 clear hi
 go_enter Tryz.func66,Tryz.ntmps66
 go_wp2_with (first
  |(go_at_call 58;refine(A1F _ _ _ _ I).mono ?_;rintro e V ⟨rfl,rfl⟩)
  |(go_at_call 128;refine(A82 _ _ _ _ _ I).mono ?_;rintro e V ⟨rfl,rfl⟩;rw[decide_eq_false J.out])
  |fail)
 go_ret2
 exact⟨rfl,rfl⟩
end
section
open Go.RowKit
theorem DkB.grown{w w2 U:World}{F:Nat->Prop}{d Z gr n:Nat}{X J:Value}{L R:List (List Nat)}{Q:List (Nat×List Nat)}{q:Nat×List Nat}(h:DkB w F d Z gr X n L R Q)(ha:B0 F w F w2)(hk:∀k,F k->w2.heap[k]? =w.heap[k]?)
 (hq:q.1<n/\q.2.length=128) (hown:U.ownsRow 0 131 129 J (Q.length+1) (Q.flatMap D4++D4 q)) (hg:w2.grownBy U X.ownBlock) (hat:J.ownBlock=X.ownBlock\/J.ownBlock=some w2.heap.size):
 DkB U (λk=>F k\/J.ownBlock=some k) d Z gr J n L R (Q++[q])/\B0 F w (λk=>F k\/J.ownBlock=some k) U/\U.heap[d]? =w.heap[d]? :=by
 obtain⟨cs,hc⟩:=h.head
 obtain⟨cl,aA,_⟩:=h.lasts.blk
 obtain⟨cr,aB,_⟩:=h.reads.blk
 have hA:B0 F w (λk=>F k\/J.ownBlock=some k) U:=by
  have W:=ha.grown hg (λj hj=>.inl (h.waits.inF j hj))
  refine⟨W.os,W.tape,W.output,W.size,W.block,?_⟩
  rintro k (I|I)
  ·exact .inl I
  ·rcases hat with e|e
   ·exact .inl (h.waits.inF k (by rw[<-e];exact I))
   ·rw[e]at I;injection I with I;have:=ha.size;right;omega
 have Y:∀g,g<w.heap.size->F g->X.ownBlock≠some g->U.heap[g]? =w.heap[g]? :=λg aC hF hn=>by
  rw[hg.block g (Nat.lt_of_lt_of_le aC ha.size) (λe=>hn e.symm),hk g hF]
 have f1:=Y Z aA.lt h.inL (P5 h.waits.own aA (by decide))
 have f2:=Y gr aB.lt h.inR (P5 h.waits.own aB (by decide))
 have f3:=Y d hc.lt h.inD (P5 h.waits.own hc (by decide))
 refine⟨⟨h.lo,h.hi,h.lenL,h.lenR,λx V=>?_,h.lasts.keep f1,h.reads.keep f2,⟨?_,λk hk=>.inr hk,?_⟩,h.ne,.inl h.inD,.inl h.inL,.inl h.inR,⟨cs,hc.keep f3⟩⟩,hA,f3⟩
 ·rcases List.mem_append.1 V with V|V
  ·exact h.qs x V
  ·rw[List.mem_singleton]at V;rw[V];exact hq
 ·rw[List.length_append,List.length_singleton,List.flatMap_append]
  simpa using hown
 ·rintro k (I|I)
  ·exact Nat.lt_of_lt_of_le (h.bd k I) hA.size
  ·exact(hown.lt k I).2
theorem A6J(q:Nat×List Nat):∀u∈D4 q,u.oneCell'=true:=by
 intro v hv
 rcases List.mem_cons.1 hv with rfl|hv
 ·rfl
 ·exact T5 _ v hv
theorem B7Y(d gl W n i:Nat)(vQ vb:Value)(F:Nat->Prop)(s:DS)(b:List Nat)(w:World)(h:DkR w F d gl W vQ n (U9 s.L s.Q) s)(ho:s.ok n)(hi:i<n)(hb:Rd w 1 vb 128 (b.map u8))(aW:b.length=128)
 (bD:∀k,vb.ownBlock=some k->¬F k) (hs:(P0 s).2=true) (bZ:s.Q.length<=1000000):
 Calls Tryz.prog 209 #[.pointer (some ⟨d,0,none⟩),.int .i64 (i:Int),vb] w λe w'=>e= .returned (.int .i64 0)/\∃F' bV,DkR w' F' d gl W bV n (U9 s.L (s.Q++[(i,b)])) { (P0 s).1 with Q:=s.Q++[(i,b)] }/\B0 F w F' w':=by
 obtain⟨A,c,rfl,bX,bY⟩:=hb.form
 obtain⟨bb,oo,rfl,bQ,aX⟩:=hb.cells (by decide) (by decide)
 have bC:w.rangeAt bb oo (b.map u8):=aX
 have c0:=h.c0
 have bS:(0:Int)<=(i:Int):=by omega
 have bT:(i:Int)<(n:Int):=by omega
 have H:=C6x h
 have HO:=C6x ho
 have HS:=C6x hs
 have bK:=C6x bD
 have aO:=C6x bC
 have V:=C6x aW
 have aM:=C6x hi
 clear h ho hs bD bC aX aW hi hb
 go_enter Tryz.func209,Tryz.ntmps209
 go_wp2_with (first
  |(go_at_call 58;refine(A1F _ _ _ _ c0).mono ?_;rintro e w1 ⟨rfl,rfl⟩)
  |(go_at_call 128;refine(A82 _ _ _ _ _ c0).mono ?_;rintro e w1 ⟨rfl,rfl⟩;rw[decide_eq_true (show 0<=(i:Int)/\(i:Int)<(n:Int)from⟨bS,bT⟩)])
  |(go_at_call 191;refine(A94 _ _ _ _ _ _ _ _ _ H.out HO.out).mono ?_;rintro e w1 ⟨rfl,h1,a1⟩;rw[HS.out];obtain⟨H1,A1,aS⟩:Hid (DkR w1 F d gl W vQ n (U9 s.L s.Q) (P0 s).1)/\Hid (B0 F w F w1)/\Hid (w1.rangeAt bb oo (b.map u8)):=⟨h1,a1,λj v hv=>(World.cell?_of_block (a1.block bb bQ (λhf=>bK.out bb rfl hf))).trans (aO.out j v hv)⟩;clear h1 a1;simp only[if_true])
  |(refine C29 rfl _ rfl _ _ rfl ?_)
  |(refine A2k rfl _ rfl bb oo b V.out aS.out rfl ?_)
  |(refine A6G rfl _ _ rfl i b V.out rfl rfl ?_)
  |(refine A2h rfl rfl ?_)
  |(refine A2j rfl _ _ rfl _ rfl (i,b) V.out rfl rfl ?_)
  |fail)
 simp only[Act.put]
 obtain⟨z,hz⟩:∃z,z=w1.heap.size:=⟨_,rfl⟩
 obtain⟨W2,aD⟩:∃W2,W2=w1.alloc (.cells (D4 (i,b)).toArray 131):=⟨_,rfl⟩
 rw[<-hz,<-aD]
 have aJ:C3 W2.drew z 131 (D4 (i,b)).toArray:=by rw[aD,hz];exact C3.new _ _ _
 have a2:B0 F w F W2.drew:=by rw[aD];exact(A1.out.alloc _).drew
 have Y:DkR W2.drew F d gl W vQ n (U9 s.L s.Q) (P0 s).1:=H1.out.keep (λk hk=>by rw[aD];exact Below.heap_alloc _ _ _ (H1.out.b.bd k hk)) (by rw[aD];simp)
 have bG:z≠W:=by rw[hz];have:=H1.out.b.bd W H1.out.b.inR;omega
 have aZ:∀k,F k->k≠z:=by intro k hk;have:=H1.out.b.bd k hk;omega
 have c1:=Y.c1
 have aI:i<(U9 s.L s.Q).length:=by rw[Y.b.lenR];exact aM.out
 have ht:W2.drew.there W (i * 128) 128:=Y.b.reads.there aI (Nat.le_refl _)
 have bB:W2.drew.rangeAt z 1 (b.map u8):=by
  intro j v hv
  rw[aJ.cell]
  simp only[D4,List.getElem?_toArray]
  rw[show 1+j=j+1 by omega,List.getElem?_cons_succ]
  exact hv
 obtain⟨U,aF⟩:∃U,U=W2.drew.setCells W (i * 128) (b.map u8):=⟨_,rfl⟩
 have bF:C3 U z 131 (D4 (i,b)).toArray:=by rw[aF];exact aJ.keep (P4 _ bG _ _ _)
 have h3:DkR U F d gl W vQ n (U9 s.L (s.Q++[(i,b)])) (P0 s).1:=by
  have hR:=Y.b.reads.putAll aI b V.out
  rw[A4Q,aF]
  exact⟨Y.blk.keep (P4 _ Y.b.gr_ne.symm _ _ _),Y.b.setR _ _ (by rw[List.length_set];exact Y.b.lenR) hR⟩
 have a3:B0 F w F U:=by rw[aF];exact B0.setCells _ _ _ a2 (.inl Y.b.inR)
 have aT:=h3.c1
 have HT:=C6x ht
 have bJ:=C6x bB
 have aQ:=C6x bF
 have H3:=C6x h3
 have A3:=C6x a3
 have aG:=C6x aT
 have bM:=C6x aF
 have aL:=C6x aZ
 clear hz aD aJ a2 Y bG aI ht bB bF h3 a3 aT H1 A1 aS H aO aF aZ
 refine D6 (S:=(λw'=>w'.cell? ⟨d,1,none⟩=some (.slice (some ⟨W,0,none⟩) n n))) (by first|exact c1|exact aG.out) (λhH=>?_)
 refine C6y 0 rfl ?_
 refine C6y 1 rfl ?_
 refine C6y 2 rfl ?_
 refine C6y 3 rfl ?_
 refine C6y 4 rfl ?_
 refine C6y 5 rfl ?_
 refine C6z 6 rfl (λK hK=>?_)
 refine A6H rfl _ rfl z 1 b V.out bJ.out rfl ?_
 refine C60 hK (by first|exact c1|exact aG.out) ?_
 clear hK K hH
 intro hH
 try simp only[Act.put,sA,sB,sC]
 refine C6y 7 rfl ?_
 refine C6z 8 rfl (λK hK=>?_)
 refine A5Q rfl _ _ rfl W (i * 128) b V.out HT.out rfl rfl ?_
 rw[<-bM.out]
 refine C60 hK (by first|exact c1|exact aG.out) ?_
 clear hK K hH
 intro hH
 try simp only[Act.put]
 refine wpAnyH_done (by kernel_rfl) ?_ _
 go_wp2_with fail
 obtain⟨X,aA⟩:∃X,X=U.drew.alloc (.cells (D4 (i,b)).toArray 131):=⟨_,rfl⟩
 have Z:U.drew.rangeAt z 0 (D4 (i,b)):=λj v hv=>by
  have:=aQ.out.cell j
  rw[List.getElem?_toArray]at this
  rw[Nat.zero_add]
  exact this.trans hv
 have k4:X.rangeAt z 0 (D4 (i,b)):=by rw[aA];exact World.rangeAt_alloc Z _
 have c2:U.drew.cell? ⟨d,2,none⟩=some vQ:=H3.out.c2
 have aU:X.cell? ⟨d,2,none⟩=some vQ:=by rw[aA];exact(H3.out.blk.drew.alloc _).cell 2
 have bH:X.ownsRow 0 131 129 vQ s.Q.length (s.Q.flatMap D4):=by
  have h:=J2 (w':=X) H3.out.b.waits.own (λk hk=>by rw[aA];exact Below.heap_alloc U.drew _ _ (H3.out.b.bd k (H3.out.b.waits.inF k hk)))
  rw[A1E]at h
  exact h
 have bA:∀j u,(D4 (i,b))[j]? =some u->X.cell? ((⟨U.heap.size,0,none⟩:Addr).add j)=some u:=λj u hu=>by
  rw[add_none,aA,Nat.zero_add]
  have:=(C3.new U.drew 131 (D4 (i,b)).toArray).cell j
  rw[List.getElem?_toArray]at this
  exact this.trans hu
 have aY:∀I J,J.ownsRow 0 131 129 I (s.Q.length+1) (s.Q.flatMap D4++D4 (i,b))->X.grownBy J vQ.ownBlock->(I.ownBlock=vQ.ownBlock\/I.ownBlock=some X.heap.size)->
  J.rangeAt z 0 (D4 (i,b))/\J.cell? ⟨d,2,none⟩=some vQ/\J.frozen? ⟨d,2,none⟩=false/\(J.setCell ⟨d,2,none⟩ I).rangeAt z 0 (D4 (i,b))/\(∃A n c,I= .slice A n c)/\
  DkR (J.setCell ⟨d,2,none⟩ I) (λk=>F k\/I.ownBlock=some k) d gl W I n (U9 s.L (s.Q++[(i,b)])) { (P0 s).1 with Q:=s.Q++[(i,b)] }/\B0 F w (λk=>F k\/I.ownBlock=some k) (J.setCell ⟨d,2,none⟩ I):=by
  intro I J aB hg aC
  have aE:=H3.out.b
  rw[A1E]at aE
  obtain⟨g1,g2,g3⟩:=aE.grown (w2:=X) (by rw[aA];exact((B0.refl F U).drew).alloc _) (λk hk=>by rw[aA];exact Below.heap_alloc U.drew _ _ (aE.bd k hk)) (q:=(i,b)) ⟨aM.out,V.out⟩ aB hg aC
  have aH:=H3.out.blk.keep g3
  have bU:J.heap[z]? =X.heap[z]? :=hg.block z (by
   have:=aQ.out.lt
   rw[aA];simp;omega) (λe=>aL.out z (aE.waits.inF z e.symm) rfl)
  have bR:z≠d:=λe=>aL.out d aE.inD e.symm
  have r5:J.rangeAt z 0 (D4 (i,b)):=λj v hv=>(World.cell?_of_block bU).trans (k4 j v hv)
  have r6:(J.setCell ⟨d,2,none⟩ I).rangeAt z 0 (D4 (i,b)):=λj v hv=>(World.cell?_of_block (heap_setCell_other J _ z _ bR)).trans (r5 j v hv)
  have aV:=g1.set_ 2 I
  refine⟨r5,aH.cell 2,aH.frozen 2,r6,?_,⟨?_,?_⟩,?_⟩
  ·rcases aB.2 with⟨rfl,_⟩|⟨_,_,_,rfl,_⟩<;>exact⟨_,_,_,rfl⟩
  ·exact aH.set_ 2 I
  ·rw[A4f]at aV⊢
   exact aV
  ·exact(A3.out.trans g2).setCell (p:=⟨d,2,none⟩) (.inl aE.inD) I
 have K4:=C6x k4
 have bI:=C6x aU
 have aR:=C6x bH
 have aN:=C6x bA
 have aK:=C6x aY
 have aP:=C6x aA
 clear k4 bH bA aY aA c1
 refine D6 (S:=(λw'=>w'.rangeAt z 0 (D4 (i,b)))) (by first|exact Z|exact K4.out|exact k5|exact k6) (λhH=>?_)
 refine C6y 0 rfl ?_
 refine C6y 1 rfl ?_
 refine C6y 2 rfl ?_
 refine C6y 3 rfl ?_
 refine C65 5 (.agg (D4 (i,b)).toArray) rfl (yieldsIf_load_mid (by rfl) 131 (.tmp 8) rfl z 0 rfl (D4 (i,b)) _ (λw' hw'=>hw') Tryz.underlying131 rfl (by rw[A4S,P3 V.out])) ?_
 refine C63 4 6 rfl rfl (λK hK=>?_) (λK hK=>?_)
 ·go_simp
  refine C60 hK (by first|exact Z|exact K4.out|exact k5|exact k6) ?_
  clear hK K hH
  intro hH
  try simp only[Act.put,sA,sB,sC]
  refine C6z 6 rfl (λK hK=>?_)
  refine A0r rfl _ rfl (i,b) V.out rfl ?_
  rw[<-aP.out]
  refine C60 hK (by first|exact Z|exact K4.out|exact k5|exact k6) ?_
  clear hK K hH
  intro hH
  try simp only[Act.put,sA,sB,sC]
  refine C6z 7 rfl (λK hK=>?_)
  refine A1S rfl (.tmp 43) (.tmp 45) 97 131 rfl Tryz.underlying97 A2M A5Z (by decide) rfl aR.out ⟨U.heap.size,0,none⟩ 1 1 rfl (D4 (i,b)) (by rw[P3 V.out]) aN.out (A6J _) (by unfold maxLen;omega) (by omega) ?_
  intro I J aB hg aC
  obtain⟨k5,e2,bP,k6,⟨A2,n2,bO,rfl⟩,hx⟩:=aK.out I J aB hg aC
  have HX:=C6x hx
  clear hx aB hg aC
  refine C60 hK (by first|exact Z|exact K4.out|exact k5|exact k6) ?_
  clear hK K hH
  intro hH
  try simp only[Act.put,sA,sB,sC]
  refine C6y 8 rfl ?_
  refine C6y 9 rfl ?_
  refine C6z 10 rfl (λK hK=>?_)
  go_simp
  refine C60 hK (by first|exact Z|exact K4.out|exact k5|exact k6) ?_
  clear hK K hH
  intro hH
  try simp only[Act.put]
  refine wpAnyH_done (by kernel_rfl) ?_ _
  go_wp2
  go_ret
  exact⟨rfl,_,⟨_,HX.out.1⟩,HX.out.2⟩
 ·refine A0r rfl _ rfl (i,b) V.out rfl ?_
  rw[<-aP.out]
  have aU:=bI.out
  refine C60 hK (by first|exact Z|exact K4.out|exact k5|exact k6) ?_
  clear hK K hH
  intro hH
  try simp only[Act.put,sA,sB,sC]
  refine C6z 4 rfl (λK hK=>?_)
  go_simp
  refine C60 hK (by first|exact Z|exact K4.out|exact k5|exact k6) ?_
  clear hK K hH
  intro hH
  try simp only[Act.put,sA,sB,sC]
  refine C6z 7 rfl (λK hK=>?_)
  refine A1S rfl (.tmp 43) (.tmp 45) 97 131 rfl Tryz.underlying97 A2M A5Z (by decide) rfl aR.out ⟨U.heap.size,0,none⟩ 1 1 rfl (D4 (i,b)) (by rw[P3 V.out]) aN.out (A6J _) (by unfold maxLen;omega) (by omega) ?_
  intro I J aB hg aC
  obtain⟨k5,e2,bP,k6,⟨A2,n2,bO,rfl⟩,hx⟩:=aK.out I J aB hg aC
  have HX:=C6x hx
  clear hx aB hg aC
  refine C60 hK (by first|exact Z|exact K4.out|exact k5|exact k6) ?_
  clear hK K hH
  intro hH
  try simp only[Act.put,sA,sB,sC]
  refine C6y 8 rfl ?_
  refine C6y 9 rfl ?_
  refine C6z 10 rfl (λK hK=>?_)
  go_simp
  refine C60 hK (by first|exact Z|exact K4.out|exact k5|exact k6) ?_
  clear hK K hH
  intro hH
  try simp only[Act.put]
  refine wpAnyH_done (by kernel_rfl) ?_ _
  go_wp2
  go_ret
  exact⟨rfl,_,⟨_,HX.out.1⟩,HX.out.2⟩
theorem B6h(d X n m:Nat)(i:Int)(W:Value)(w:World)(J:w.cell? ⟨d,0,none⟩=some (.slice (some ⟨X,0,none⟩) n n))(A:Option Addr)(c:Nat)(hv:W= .slice A m c)(hi:¬(0<=i/\i<(n:Int))\/m≠128):
 Calls Tryz.prog 209 #[.pointer (some ⟨d,0,none⟩),.int .i64 i,W] w λe w'=>e= .returned (.int .i64 2)/\w=w':=by
 subst hv
 by_cases I:0<=i/\i<(n:Int)
 ·have Y:((m:Int)!=128)=true:=by
   rw[bne_iff_ne]
   rcases hi with h|h
   ·exact absurd I h
   ·omega
  have U:=C6x I
  clear hi I
  go_enter Tryz.func209,Tryz.ntmps209
  go_wp2_with (first
   |(go_at_call 58;refine(A1F _ _ _ _ J).mono ?_;rintro e V ⟨rfl,rfl⟩)
   |(go_at_call 128;refine(A82 _ _ _ _ _ J).mono ?_;rintro e V ⟨rfl,rfl⟩;rw[decide_eq_true U.out])
   |fail)
  go_ret
  exact⟨rfl,rfl⟩
 ·have U:=C6x I
  clear hi I
  go_enter Tryz.func209,Tryz.ntmps209
  go_wp2_with (first
   |(go_at_call 58;refine(A1F _ _ _ _ J).mono ?_;rintro e V ⟨rfl,rfl⟩)
   |(go_at_call 128;refine(A82 _ _ _ _ _ J).mono ?_;rintro e V ⟨rfl,rfl⟩;rw[decide_eq_false U.out])
   |fail)
  go_ret
  exact⟨rfl,rfl⟩
theorem B3b(d U V n i:Nat)(Z vb:Value)(F:Nat->Prop)(R:List (List Nat))(s:DS)(w:World)(h:DkR w F d U V Z n R s)(X:s.ok n)(hi:i<n)(A:Option Addr)(c:Nat)(hv:vb= .slice A 128 c)(Y:(P0 s).2=false):
 Calls Tryz.prog 209 #[.pointer (some ⟨d,0,none⟩),.int .i64 (i:Int),vb] w λe w'=>e= .returned (.int .i64 7)/\DkR w' F d U V Z n R (P0 s).1/\B0 F w F w':=by
 subst hv
 have J:=h.c0
 have aA:(0:Int)<=(i:Int):=by omega
 have aB:(i:Int)<(n:Int):=by omega
 have H:=C6x h
 have HO:=C6x X
 have HS:=C6x Y
 clear h X Y
 go_enter Tryz.func209,Tryz.ntmps209
 go_wp2_with (first
  |(go_at_call 58;refine(A1F _ _ _ _ J).mono ?_;rintro e w1 ⟨rfl,rfl⟩)
  |(go_at_call 128;refine(A82 _ _ _ _ _ J).mono ?_;rintro e w1 ⟨rfl,rfl⟩;rw[decide_eq_true (show 0<=(i:Int)/\(i:Int)<(n:Int)from⟨aA,aB⟩)])
  |(go_at_call 191;refine(A94 _ _ _ _ _ _ _ _ _ H.out HO.out).mono ?_;rintro e w1 ⟨rfl,W,I⟩;rw[HS.out];have H1:=C6x W;have A1:=C6x I;clear W I;simp only[Bool.false_eq_true,if_false])
  |fail)
 go_ret
 exact⟨rfl,H1.out,A1.out⟩
theorem Dk.len{w:World}{F:Nat->Prop}{d n:Nat}{s:DS}(h:Dk w F d n s):s.L.length=n:=h.1.len
theorem A6K(d n m:Nat)(i:Int)(U:Value)(F:Nat->Prop)(s:DS)(b:List Nat)(w:World)(h:Dk w F d n s)(hb:Rd w 1 U m (b.map u8))(aF:∀k,U.ownBlock=some k->¬F k)(aE:s.Q.length<=1000000):
 Calls Tryz.prog 209 #[.pointer (some ⟨d,0,none⟩),.int .i64 i,U] w λe w'=>e= .returned (.int .i64 (L3 s i b).2)/\∃F',Dk w' F' d n (L3 s i b).1/\B0 F w F' w':=by
 have hn:=h.len
 have V:=B6d h.1 i b
 obtain⟨X,I,J,Z,Y⟩:=h
 obtain⟨A,c,hv,_,_⟩:=hb.form
 have aC:b.length=m:=by obtain⟨_,_,_,_,_,h,_⟩:=hb;simpa using h
 by_cases W:i<0\/(s.L.length:Int)<=i\/b.length≠128
 ·refine(B6h d I n m i U w Y.c0 A c hv (by
   rw[aC,hn]at W
   rcases W with h|h|h
   ·left;omega
   ·left;omega
   ·exact .inr h)).mono ?_
  rintro e w' ⟨rfl,rfl⟩
  unfold L3
  rw[if_pos W]
  exact⟨rfl,F,⟨X,I,J,Z,Y⟩,B0.refl _ _⟩
 ·have aD:0<=i:=by omega
  have aG:i<(n:Int):=by omega
  obtain⟨j,rfl⟩:=Int.eq_ofNat_of_zero_le aD
  have aB:b.length=128:=by omega
  have hm:m=128:=by omega
  subst hm
  unfold L3 at V⊢
  rw[if_neg W]at V⊢
  cases hs:(P0 s).2 with
  |true=>
   rw[hs]at V
   simp only[if_true,Int.toNat_natCast]at V⊢
   refine(B7Y d I J n j Z U F s b w Y X (by omega) hb aB aF hs aE).mono ?_
   rintro e w' ⟨rfl,F',aA,h1,h2⟩
   refine⟨rfl,F',⟨V,I,J,aA,?_⟩,h2⟩
   have e:U9 (P0 s).1.L (s.Q++[(j,b)])=U9 s.L (s.Q++[(j,b)]):=by rw[A4f]
   show DkR w' F' d I J aA n (U9 (P0 s).1.L (s.Q++[(j,b)])) _
   rw[e]
   exact h1
  |false=>
   simp only[Bool.false_eq_true,if_false]
   refine(B3b d I J n j Z U F _ s w Y X (by omega) A c hv hs).mono ?_
   rintro e w' ⟨rfl,h1,h2⟩
   refine⟨rfl,F,⟨A1s X,I,J,Z,?_⟩,h2⟩
   rw[A4f,A1E]
   exact h1
end
section
open Go.RowKit
theorem DkB.wait_at{w:World}{F:Nat->Prop}{d V W n:Nat}{U:Value}{L R:List (List Nat)}{Q:List (Nat×List Nat)}(h:DkB w F d V W U n L R Q){k:Nat}(I:k<Q.length):
 ∃g c,U= .slice (some ⟨g,0,none⟩) Q.length c/\F g/\w.rangeAt g (k * 129) (D4 (Q.getD k (0,[])))/\(Q.getD k (0,[])).1<n/\(Q.getD k (0,[])).2.length=128:=by
 obtain⟨g,c,rfl,hF,_⟩:=h.waits.form (by omega)
 have J:=h.qs _ (A6C I)
 refine⟨g,c,rfl,hF,λj v hv=>?_,J.1,J.2⟩
 have X:j<129:=by
  have:=(List.getElem?_eq_some_iff.1 hv).1
  rw[P3 J.2]at this
  exact this
 have Y:k * 129+j<Q.length * 129:=by
  have:(k+1) * 129<=Q.length * 129:=Nat.mul_le_mul_right _ I
  rw[Nat.succ_mul]at this
  omega
 rw[h.waits.own.cellAt (k * 129+j) Y,A93 D4 129 Q (λx Z=>P3 (h.qs x Z).2) k j I X]
 rw[List.getD_eq_getElem?_getD,List.getElem?_eq_getElem I]at hv
 exact hv
theorem DkB.clear{w:World}{F:Nat->Prop}{d I J n:Nat}{V:Value}{L R:List (List Nat)}{Q:List (Nat×List Nat)}(h:DkB w F d I J V n L R Q):DkB w F d I J (.slice none 0 0) n L R []:=
 ⟨h.lo,h.hi,h.lenL,h.lenR,λq U=>by simp at U,h.lasts,h.reads,Sl.nilF _ _ h.bd _ _,h.ne,h.inD,h.inL,h.inR,h.head⟩
theorem DkR.alloc{w:World}{F:Nat->Prop}{d I J n:Nat}{U:Value}{R:List (List Nat)}{s:DS}(h:DkR w F d I J U n R s)(W:Obj):DkR (w.alloc W) F d I J U n R s:=
 h.keep (λk V=>Below.heap_alloc _ _ _ (h.b.bd k V)) (by simp)
def C4l(w:World)(F:Nat->Prop)(d J U n:Nat)(V:Value)(R I:List (List Nat))(s:DS)(c:Nat->Nat)(t:Value)(wr:World):Prop:=
 ∃k,t= .int .i64 ((k:Nat):Int)/\k<=s.Q.length/\DkR wr F d J U V n R { s with L:=A0m c s.Q I k }/\B0 F w F wr
theorem B7Z(d X Y n:Nat)(vQ:Value)(F:Nat->Prop)(s:DS)(w:World)(h:DkR w F d X Y vQ n (U9 s.L s.Q) s)(ho:s.ok n)(hs:(P0 s).2=true):
 Calls Tryz.prog 153 #[.pointer (some ⟨d,0,none⟩)] w λe w'=>e= .returned (.int .i64 0)/\DkR w' F d X Y (.slice none 0 0) n (U9 s.L s.Q) { (P0 s).1 with L:=U9 s.L s.Q,Q:=[] }/\B0 F w F w':=by
 have c0:=h.c0
 have H:=C6x h
 have V:=C6x ho
 have HS:=C6x hs
 clear h ho hs
 go_enter Tryz.func153,Tryz.ntmps153
 go_wp2_with (first
  |(go_at_call 58;refine(A1F _ _ _ _ c0).mono ?_;rintro e w1 ⟨rfl,rfl⟩)
  |(go_at_call 191;refine(A94 _ _ _ _ _ _ _ _ _ H.out V.out).mono ?_;rintro e w1 ⟨rfl,Z,a1⟩;rw[HS.out];have aY:=Z.c2;obtain⟨aq,cq,rfl,aK,bA⟩:=Z.b.waits.form0;unfold maxLen at bA;have H1:=C6x Z;have A1:=C6x a1;clear Z a1;simp only[if_true])
  |fail)
 obtain⟨I,U⟩:∃I,I=(P0 s).1:=⟨_,rfl⟩
 have aE:I.L=s.L:=by rw[U,A4f]
 have aF:I.Q=s.Q:=by rw[U,A1E]
 rw[<-U]at H1⊢
 rw[<-U]at aK
 have aW:=C6x U
 have aP:=C6x aE
 have aR:=C6x aF
 obtain⟨M,hM⟩:∃M,M=I.Q.length:=⟨_,rfl⟩
 rw[<-hM]at aK
 have HM:=C6x hM
 clear U aE aF aY H hM
 go_loopw [19] (C4l w F d X Y n (.slice aq I.Q.length cq) (U9 s.L s.Q) I.L I (λ_=>128)) (λt _=>I.Q.length-(intOf t).toNat)
 case atStart=>exact⟨0,rfl,Nat.zero_le _,H1.out,A1.out⟩
 case round=>
  obtain⟨k,rfl,hk,J,ha⟩:=hrel
  by_cases aZ:k<I.Q.length
  ·have bC:k+1<=9223372036854775807:=by have:=HM.out;omega
   obtain⟨g,c,e,bB,aC,aA,aB⟩:=J.b.wait_at aZ
   injection e with e1 e2 e3
   subst e1
   clear e2 e3
   have aD:A0m (λ_=>128) I.Q I.L (k+1)=A92 (A0m (λ_=>128) I.Q I.L k) (I.Q.getD k (0,[])) 128:=rfl
   obtain⟨q,hq⟩:∃q,q=I.Q.getD k (0,[]):=⟨_,rfl⟩
   rw[<-hq]at aC aA aB aD
   have aJ:(wr.alloc (.cells (D4 q).toArray 131)).rangeAt wr.heap.size 0 (D4 q):=λj v hv=>by
    rw[Nat.zero_add,(C3.new wr 131 (D4 q).toArray).cell j,List.getElem?_toArray]
    exact hv
   have aL:=J.alloc (.cells (D4 q).toArray 131)
   have aG:=ha.alloc (.cells (D4 q).toArray 131)
   have aT:=C6x aL
   have aN:=C6x aG
   have aV:=C6x aC
   have aS:=C6x aA
   have W:=C6x aB
   have aQ:=C6x aJ
   have aX:=C6x aD
   clear J ha aC aA aB aJ hq aL aG aD
   go_wp2_with (first
    |(go_at_call 59;refine(C4j _ _ _ _ _ _ _ _ q 128 _ aT.out aS.out W.out (Nat.le_refl _)).mono ?_;rintro e w2 ⟨rfl,h2,a2⟩;have H2:=C6x h2;have A2:=C6x a2;clear h2 a2)
    |(refine A3l rfl _ rfl g (k * 129) q W.out aV.out rfl ?_)
    |(refine A3l rfl _ rfl wr.heap.size 0 q W.out aQ.out rfl ?_)
    |(refine A2h rfl rfl ?_)
    |(refine A2j rfl _ _ rfl _ rfl q W.out rfl rfl ?_)
    |fail)
   refine⟨⟨k+1,by simp,by omega,?_,aN.out.trans A2.out⟩,by simp[intOf];omega⟩
   rw[aX.out]
   exact H2.out
  ·obtain rfl:k=I.Q.length:=by omega
   have c2:=J.c2
   have f2:=J.blk.frozen 2
   have aM:DkR (wr.setCell ⟨d,2,none⟩ (.slice none 0 0)) F d X Y (.slice none 0 0) n (U9 s.L s.Q) { I with L:=A0m (λ_=>128) I.Q I.L I.Q.length,Q:=[] }:=
    ⟨J.blk.set_ 2 _,(J.b.set_ 2 _).clear⟩
   have aH:=ha.setCell (p:=⟨d,2,none⟩) (.inl J.b.inD) (.slice none 0 0)
   have aU:=C6x aM
   have aO:=C6x aH
   clear J ha aM aH
   go_wp2_with fail
   go_ret
   refine⟨rfl,?_,aO.out⟩
   have aI:=A6E s.Q s.L V.out.row (λq hq=>by rw[V.out.len];exact V.out.at_ q hq) s.Q.length (Nat.le_refl _)
   rw[List.take_length]at aI
   have h:=aU.out
   rw[aR.out,aP.out,aI]at h
   rw[<-aW.out]
   exact h
theorem B3c(d J U n:Nat)(Y:Value)(F:Nat->Prop)(R:List (List Nat))(s:DS)(w:World)(h:DkR w F d J U Y n R s)(W:s.ok n)(X:(P0 s).2=false):
 Calls Tryz.prog 153 #[.pointer (some ⟨d,0,none⟩)] w λe w'=>e= .returned (.int .i64 7)/\DkR w' F d J U Y n R (P0 s).1/\B0 F w F w':=by
 have c0:=h.c0
 have H:=C6x h
 have HO:=C6x W
 have HS:=C6x X
 clear h W X
 go_enter Tryz.func153,Tryz.ntmps153
 go_wp2_with (first
  |(go_at_call 58;refine(A1F _ _ _ _ c0).mono ?_;rintro e w1 ⟨rfl,rfl⟩)
  |(go_at_call 191;refine(A94 _ _ _ _ _ _ _ _ _ H.out HO.out).mono ?_;rintro e w1 ⟨rfl,V,I⟩;rw[HS.out];have H1:=C6x V;have Z:=C6x I;clear V I;simp only[Bool.false_eq_true,if_false])
  |fail)
 go_ret
 exact⟨rfl,H1.out,Z.out⟩
theorem A4h(d n:Nat)(F:Nat->Prop)(s:DS)(w:World)(h:Dk w F d n s):
 Calls Tryz.prog 153 #[.pointer (some ⟨d,0,none⟩)] w λe w'=>e= .returned (.int .i64 (E0 s).2)/\Dk w' F d n (E0 s).1/\B0 F w F w':=by
 have U:=B6e h.1
 obtain⟨X,I,J,Y,Z⟩:=h
 unfold E0 at U⊢
 cases hs:(P0 s).2 with
 |true=>
  rw[hs]at U
  simp only[if_true]at U⊢
  refine(B7Z d I J n Y F s w Z X hs).mono ?_
  rintro e w' ⟨rfl,V,W⟩
  exact⟨rfl,⟨U,I,J,_,V⟩,W⟩
 |false=>
  simp only[Bool.false_eq_true,if_false]
  refine(B3c d I J n Y F _ s w Z X hs).mono ?_
  rintro e w' ⟨rfl,V,W⟩
  refine⟨rfl,⟨A1s X,I,J,Y,?_⟩,W⟩
  rw[A4f,A1E]
  exact V
end
section
open Go.RowKit
end
section
open Go.RowKit
theorem Rd.adv{w w':World}{F F':Nat->Prop}{J n:Nat}{v:Value}{U:List Value}(h:Rd w J v n U)(I:B0 F w F' w')(Y:∀k,v.ownBlock=some k->0<n->¬F k):Rd w' J v n U:=
 h.far (λk V X W=>I.block k W (Y k V X)) I.size
end
section
open Go.RowKit
end
section
open Go.RowKit
end
section
open Go.RowKit
theorem C07:(Tryz.prog.info? 3).map (λi=>(i.zero,i.size,i.bytes))=some (some (.int .i64 0),1,8):=by kernel_rfl
end
section
open Go.RowKit
end
section
open Go.RowKit
theorem A6a(d n:Nat)(F:Nat->Prop)(s:DS)(i:Nat)(w:World)(h:Dk w F d n s)(hi:i<n):
 Calls Tryz.prog 66 #[.pointer (some ⟨d,0,none⟩),.int .i64 (i:Int)] w λe w'=>∃z,e= .returned (.tuple #[.slice (some ⟨z,0,none⟩) 128 128,.int .i64 0])/\C3 w' z 129 ((isS s i).map u8).toArray/\(isS s i).length=128/\B0 B5 w (λk=>k=z) w':=by
 obtain⟨W,I,J,V,U⟩:=h
 exact C2B d I J n V F _ s i w U hi
theorem B6i(d n:Nat)(F:Nat->Prop)(s:DS)(i:Int)(w:World)(h:Dk w F d n s)(hi:¬(0<=i/\i<(n:Int))):
 Calls Tryz.prog 66 #[.pointer (some ⟨d,0,none⟩),.int .i64 i] w λe w'=>e= .returned (.tuple #[.slice none 0 0,.int .i64 2])/\w=w':=by
 obtain⟨V,I,U,W,J⟩:=h
 exact B7X d I n i w J.c0 hi
theorem A4i(d n:Nat)(F:Nat->Prop)(s:DS)(w:World)(h:Dk w F d n s):
 Calls Tryz.prog 41 #[.pointer (some ⟨d,0,none⟩)] w λe w'=>e= .returned (.int .i64 (n:Int))/\w=w':=by
 obtain⟨V,I,U,W,J⟩:=h
 exact C28 d I n w J.c0
end
section
open Go.RowKit
theorem C3.sl8{w:World}{z:Nat}{t:TypeId}{l:List Nat}(h:C3 w z t (l.map u8).toArray)(J:l.length=128):Sl w (λk=>k=z) t 1 (.slice (some ⟨z,0,none⟩) 128 128) 128 (l.map u8):=
 ⟨⟨by simp[J],.inr ⟨z,128,_,rfl,Nat.zero_le _,h,Nat.le_refl _,by decide,by simp[J],by simp;rw[<-J,<-List.map_take,List.take_length]⟩⟩,λk I=>by
   have:z=k:=by simpa[Value.ownBlock]using I
   exact this.symm,λk I=>by rw[I];exact h.lt⟩
end
end Go.Proofs.YtbefmjiclpobjaaGreat
