import Derived.Test.YtbefmjiclpobjaaGreatMh17
import Derived.Lib.LazyBuf
namespace Go.Proofs.YtbefmjiclpobjaaGreat
set_option maxHeartbeats 3200000
set_option maxRecDepth 3000
section
open Go.RowKit Go.Maps
def A1v(q V a n:Nat):Nat:=if a+n<=8 * q then B9 q V a n else 0
theorem A8d(q V a n:Nat):A1v q V a n<2^n:=by
 unfold A1v
 split
 ·exact Nat.mod_lt _ (Nat.two_pow_pos _)
 ·exact Nat.two_pow_pos _
theorem RdS.getx{w:World}{F:Nat->Prop}{b q V a:Nat}(h:RdS w F b q V a)(n:Nat)(Z:n<=64):
 Calls Tryz.prog 131 #[.pointer (some ⟨b,0,none⟩),.int .i64 (n:Int)] w λe w'=>e= .returned (.int .u64 (A1v q V a n:Int))/\RdS w' F b q V (a+n)/\A8 F w F w':=by
 rcases h with⟨h1,I,h3⟩|⟨h1,I⟩
 ·by_cases J:a+n<=8 * q
  ·refine(Z2 b q V a n F w I h3 Z J).mono ?_
   rintro e w' ⟨rfl,U,X,k3⟩
   exact⟨by rw[A1v,if_pos J],.inl ⟨J,U,k3⟩,X⟩
  ·refine(A6B b q V a n F w I h3 Z (by omega)).mono ?_
   rintro e w' ⟨rfl,U,X⟩
   exact⟨by rw[A1v,if_neg J];rfl,.inr ⟨by omega,U⟩,X⟩
 ·refine(B2a b n 3 F w I).mono ?_
  rintro e w' ⟨rfl,rfl⟩
  exact⟨by rw[A1v,if_neg (by omega)];rfl,.inr ⟨by omega,I⟩,A8.refl _ _⟩
def gN(l:List Nat):Nat:=A1v l.length (P7 l) 0 8
def gA(l:List Nat)(i:Nat):Nat:=A1v l.length (P7 l) (8+1036 * i) 12
def gB(l:List Nat)(i k:Nat):Nat:=A1v l.length (P7 l) (20+1036 * i+8 * k) 8
def gT(l:List Nat)(i:Nat):Pt:=⟨(gA l i:Int),(List.range 128).map (gB l i)⟩
def gP(l:List Nat):List Pt:=(List.range (gN l)).map (gT l)
def gE(l:List Nat):Int:=A3y l.length (P7 l) (8+1036 * gN l)
theorem B91(l:List Nat):gN l<256:=A8d _ _ _ _
theorem C1K(l:List Nat)(i:Nat):gA l i<4096:=A8d _ _ _ _
theorem C1L(l:List Nat)(i k:Nat):gB l i k<256:=A8d _ _ _ _
theorem B60(l:List Nat):gN l=B08 l:=by
 unfold gN B08 A1v
 split
 ·rfl
 ·have e:l=[]:=List.length_eq_zero_iff.mp (by omega)
  subst e
  rfl
theorem C0s(l:List Nat):gE l=A6q l:=by unfold gE A6q;rw[B60]
theorem B84{q V a:Nat}(h:A3y q V a=0):a<=8 * q:=by
 unfold A3y at h
 split at h
 ·assumption
 ·cases h
theorem B1s{l:List Nat}(h:A6q l=0):gP l=A8P l:=by
 have X:=B84 (show A3y l.length (P7 l) (8+1036 * B08 l)=0 from h)
 unfold gP A8P
 rw[B60]
 apply List.ext_getElem
 ·simp
 ·intro i V J
  have hi:i<B08 l:=by simpa using J
  simp only[List.getElem_map,List.getElem_range]
  have ea:gA l i=B7P l i:=by unfold gA B7P A1v;rw[if_pos (by omega)]
  have I:(List.range 128).map (gB l i)=(List.range 128).map (B5k l i):=by
   apply List.ext_getElem
   ·simp
   ·intro j h3 U
    have Z:j<128:=by simpa using U
    simp only[List.getElem_map,List.getElem_range]
    unfold gB B5k A1v
    rw[if_pos (by omega)]
  unfold gT B7Q
  rw[ea,I]
section
variable {ops:Array Oper} {o:Oper} {a:Act} {w:World} {Q:Exit->Act->World->Prop} {K:Act->World->Prop} {E:Prop}
theorem A7a{t:TypeId}{m:Nat}(aA:(Tryz.prog.info? t).map (·.size)=some m)(X:o.guard=none)(x y:Operand)(Z:o.op= .store t x y)(z I:Nat)(D:Array Value)(V:w.there z I m)(J:D.size=m)(U:D.all (·.oneCell')=true)
 (hx:a.eval x= .pointer (some ⟨z,I,none⟩)) (hy:a.eval y= .agg D) (h:K (a.put o.dst undef) (w.setCells z I D.toList)):if Region.wanted o (yielded ops a.tmps)=true then Oper.wp Tryz.prog o a w K Q else E:=by
 rw[if_pos (by simp[Region.wanted,X])]
 exact wp_store_mid t x y Z z I D hx hy (by rw[J];exact V) (by rw[aA,J]) U h
theorem B85:madeCells #[.int .u8 0] 128=((List.replicate 128 0).map u8).toArray:=by
 apply Array.ext_getElem?
 intro i
 rw[<-Array.getElem?_toList,toList_madeCells_one,List.getElem?_toArray,List.map_replicate]
 rfl
theorem A9B(w:World):(Instr.makeSlice 54 (.int .i64 128) (.int .i64 128)).run Tryz.prog w= .ok (.slice (some ⟨w.heap.size,0,none⟩) 128 128) (w.alloc (.cells ((List.replicate 128 0).map u8).toArray 5)):=by
 obtain⟨X,hi,J,U,V⟩:=info_parts Tryz.infoU8
 have I:=run_make (P:=Tryz.prog) w 54 5 X (.int .u8 0) Tryz.underlying54 hi J .i64 .i64 128 128 (by decide) (by decide) (by rw[V];decide) (by decide)
 rw[U]at I
 rw[<-B85]
 exact I
theorem A5F(I:o.guard=none)(x y:Operand)(J:o.op= .makeSlice 54 x y)(U:a.eval x= .int .i64 128)(V:a.eval y= .int .i64 128)
 (h:K (a.put o.dst (.slice (some ⟨w.heap.size,0,none⟩) 128 128)) (w.alloc (.cells ((List.replicate 128 0).map u8).toArray 5))):if Region.wanted o (yielded ops a.tmps)=true then Oper.wp Tryz.prog o a w K Q else E:=by
 rw[if_pos (by simp[Region.wanted,I])]
 unfold Oper.wp execOp
 simp only[J,U,V,Sem.run_bind,A9B,Result.andThen_ok]
 exact h
end
theorem B2C:(Tryz.prog.info? 239).map (λi=>(i.zero,i.size,i.bytes))=some (some (.agg #[.int .i64 0,.slice none 0 0]),2,32):=by kernel_rfl
theorem B2D:(Tryz.prog.info? 239).map (·.size)=some 2:=by kernel_rfl
theorem B4m(n:Nat)(Z:n<=1000)(w:World):(Instr.makeSlice 202 (.int .u64 (n:Int)) (.int .u64 (n:Int))).run Tryz.prog w= .ok (.slice (some ⟨w.heap.size,0,none⟩) n n) (w.alloc (.cells (madeCells #[.int .i64 0,.slice none 0 0] (n * 2)) 239)):=by
 obtain⟨X,J,V,U,I⟩:=info_parts B2C
 have h:=run_make (P:=Tryz.prog) w 202 239 X _ Tryz.underlying202 J V .u64 .u64 n n (by omega) (Int.le_refl _) (by rw[I];omega) (by omega)
 simpa[U,Value.cells]using h
theorem A5G(C:Array Value)(n:Nat):(madeCells C n).size=n:=by simp[madeCells]
structure DcI (W:World) (F:Nat->Prop) (b z N:Nat) (l:List Nat) (Y:Nat->Nat) (k a:Nat) (w:World):Prop where
 rd:RdS w F b l.length (P7 l) a
 blk:∃C,C0 w z 239 C/\C.size=N * 2
 at_:∀i,i<k->w.cell? ⟨z,i * 2,none⟩=some (.int .i64 (gA l i:Int))/\w.cell? ⟨z,i * 2+1,none⟩=some (.slice (some ⟨Y i,0,none⟩) 128 128)/\C0 w (Y i) 5 (((List.range 128).map (gB l i)).map u8).toArray/\Y i≠z/\¬F (Y i)/\W.heap.size<=Y i
 adv:A8 B0 W B0 w
 newF:∀j,F j->W.heap.size<=j
 hz:W.heap.size<=z
 nz:¬F z
section
variable {W w w':World} {F F':Nat->Prop} {b z N:Nat} {l:List Nat} {Y:Nat->Nat} {k a:Nat}
theorem DcI.adv_(h:DcI W F b z N l Y k a w)(I:A8 F w F w'){V:Nat}(hr:RdS w' F b l.length (P7 l) V):DcI W F b z N l Y k V w':=by
 obtain⟨C,Z,hC⟩:=h.blk
 have U:=I.block z Z.lt h.nz
 refine⟨hr,⟨C,Z.keep U,hC⟩,λi hi=>?_,?_,h.newF,h.hz,h.nz⟩
 ·obtain⟨c0,c1,hy,h1,X,h4⟩:=h.at_ i hi
  exact⟨by rw[World.cell?_of_block U];exact c0,by rw[World.cell?_of_block U];exact c1,hy.keep (I.block _ hy.lt X),h1,X,h4⟩
 ·exact⟨I.os.trans h.adv.os,I.tape.trans h.adv.tape,I.output.trans h.adv.output,Nat.le_trans h.adv.size I.size,λj J hn=>(I.block j (Nat.lt_of_lt_of_le J h.adv.size) (λx=>by have:=h.newF j x;omega)).trans (h.adv.block j J hn),λ_ J=>J.elim⟩
theorem DcI.over(h:DcI W F b z N l Y k a w)(I:A8 B0 w F' w'):DcI W F b z N l Y k a w':=
 h.adv_ ⟨I.os,I.tape,I.output,I.size,λj J _=>I.block j J (λx=>x),λ_ J=>.inl J⟩ (h.rd.far (λj _ U=>I.block j U (λx=>x)) I.size)
theorem DcI.get(h:DcI W F b z N l Y k a w)(n:Nat)(U:n<=64):
 Calls Tryz.prog 131 #[.pointer (some ⟨b,0,none⟩),.int .i64 (n:Int)] w λe w'=>e= .returned (.int .u64 (A1v l.length (P7 l) a n:Int))/\DcI W F b z N l Y k (a+n) w'/\A8 F w F w':=by
 refine(h.rd.getx n U).mono ?_
 rintro e w' ⟨rfl,J,I⟩
 exact⟨rfl,h.adv_ I J,I⟩
theorem DcI.there(h:DcI W F b z N l Y k a w)(X:k<N):w.there z (k * 2) 2:=λj V=>by
 obtain⟨C,J,U⟩:=h.blk
 have I:=J.there (k * 2+j) (by omega)
 rw[Nat.zero_add]at I
 exact I
structure DcJ (W:World) (F:Nat->Prop) (b z N:Nat) (l:List Nat) (Y:Nat->Nat) (k a y j:Nat) (w:World):Prop where
 base:DcI W F b z N l Y k a w
 c0:w.cell? ⟨z,k * 2,none⟩=some (.int .i64 (gA l k:Int))
 c1:w.cell? ⟨z,k * 2+1,none⟩=some (.slice (some ⟨y,0,none⟩) 128 128)
 yb:C0 w y 5 (((List.range j).map (gB l k)++List.replicate (128-j) 0).map u8).toArray
 yz:y≠z
 yF:¬F y
 yY:∀i,i<k->Y i≠y
 yW:W.heap.size<=y
 kN:k<N
theorem DcJ.adv_{y j:Nat}(h:DcJ W F b z N l Y k a y j w)(I:A8 F w F w'){J:Nat}(X:RdS w' F b l.length (P7 l) J):DcJ W F b z N l Y k J y j w':=by
 obtain⟨C,V,Z⟩:=h.base.blk
 have U:=I.block z V.lt h.base.nz
 exact⟨h.base.adv_ I X,by rw[World.cell?_of_block U];exact h.c0,by rw[World.cell?_of_block U];exact h.c1,h.yb.keep (I.block _ h.yb.lt h.yF),h.yz,h.yF,h.yY,h.yW,h.kN⟩
theorem DcJ.drew{y j:Nat}(h:DcJ W F b z N l Y k a y j w):DcJ W F b z N l Y k a y j w.drew:=h.adv_ ((A8.refl F w).drew) (h.base.rd.far (λ_ _ _=>rfl) (Nat.le_refl _))
theorem DcJ.get{y j:Nat}(h:DcJ W F b z N l Y k a y j w)(n:Nat)(U:n<=64):
 Calls Tryz.prog 131 #[.pointer (some ⟨b,0,none⟩),.int .i64 (n:Int)] w λe w'=>e= .returned (.int .u64 (A1v l.length (P7 l) a n:Int))/\DcJ W F b z N l Y k (a+n) y j w':=by
 refine(h.base.rd.getx n U).mono ?_
 rintro e w' ⟨rfl,I,J⟩
 exact⟨rfl,h.adv_ J I⟩
theorem A8.setCellsNew{W w:World}{z o:Nat}(h:A8 B0 W B0 w)(I:W.heap.size<=z)(D:List Value):A8 B0 W B0 (w.setCells z o D):=A8.lsetCells D o _ h (.inr I)
theorem DcI.lay{y:Nat}{xa:Int}(h:DcI W F b z N l Y k a w)(hk:k<N)(hx:xa=(gA l k:Int))(hy:C0 w y 5 ((List.replicate 128 0).map u8).toArray)(aA:y≠z)(aE:¬F y)(aG:∀i,i<k->Y i≠y)(aF:W.heap.size<=y):
 DcJ W F b z N l Y k a y 0 (w.setCells z (k * 2) [.int .i64 xa,.slice (some ⟨y,0,none⟩) 128 128]):=by
 subst hx
 obtain⟨D,I⟩:∃D,D=[Value.int .i64 (gA l k:Int),.slice (some ⟨y,0,none⟩) 128 128]:=⟨_,rfl⟩
 have aI:D.length=2:=by rw[I];rfl
 obtain⟨C,hB,hC⟩:=h.blk
 obtain⟨C',aB,aH⟩:=C0.lsetCells D (k * 2) w C hB
 have U:∀g,g≠z->(w.setCells z (k * 2) D).heap[g]? =w.heap[g]? :=λg V=>J6 z V D (k * 2) w
 have e:∀i j,i<k->j<2->(w.setCells z (k * 2) D).cell? ⟨z,i * 2+j,none⟩=w.cell? ⟨z,i * 2+j,none⟩:=λi j hi J=>World.cell?_setCells_out z D (k * 2) w _ (λ_ _=>.inl (by show i * 2+j<k * 2;omega))
 have X:∀j (J:j<D.length),(w.setCells z (k * 2) D).cell? ⟨z,k * 2+j,none⟩=some D[j]:=λj J=>World.cell?_setCells_in z D (k * 2) w (λj J=>(h.there hk j (by omega)).1) j J
 have aC:w.heap.size<=(w.setCells z (k * 2) D).heap.size:=(A8.lsetCells D (k * 2) _ (A8.refl (λk=>k=z) w) (.inl rfl)).size
 rw[<-I]
 refine⟨⟨h.rd.far (λg V _=>U g (λe=>h.nz (e ▸ V))) aC,⟨C',aB,by omega⟩,λi hi=>?_,h.adv.setCellsNew h.hz D,h.newF,h.hz,h.nz⟩,?_,?_,?_,aA,aE,aG,aF,hk⟩
 ·obtain⟨c0,c1,aD,Z,h2,h4⟩:=h.at_ i hi
  exact⟨by have:=e i 0 hi (by decide);rw[Nat.add_zero]at this;rw[this];exact c0,by rw[e i 1 hi (by decide)];exact c1,aD.keep (U _ Z),Z,h2,h4⟩
 ·have:=X 0 (by omega)
  rw[Nat.add_zero]at this
  rw[this]
  subst I;rfl
 ·have:=X 1 (by omega)
  rw[this]
  subst I;rfl
 ·have e3:(List.range 0).map (gB l k)++List.replicate (128-0) 0=List.replicate 128 0:=rfl
  rw[e3]
  exact hy.keep (U y aA)
theorem DcJ.set{y j x:Nat}(h:DcJ W F b z N l Y k a y j w)(hj:j<128)(hx:x=gB l k j):DcJ W F b z N l Y k a y (j+1) (w.setCell ⟨y,j,none⟩ (.int .u8 (x:Int))):=by
 have U:∀g,g≠y->(w.setCell ⟨y,j,none⟩ (.int .u8 (x:Int))).heap[g]? =w.heap[g]? :=λg V=>Below.heap_setCell w _ _ g V
 have aC:w.heap.size<=(w.setCell ⟨y,j,none⟩ (.int .u8 (x:Int))).heap.size:=by simp[World.setCell]
 obtain⟨C,hB,hC⟩:=h.base.blk
 have I:=U z h.yz.symm
 refine⟨⟨h.base.rd.far (λg V _=>U g (λe=>h.yF (e ▸ V))) aC,⟨C,hB.keep I,hC⟩,λi hi=>?_,h.base.adv.setCell (.inr h.yW) _,h.base.newF,h.base.hz,h.base.nz⟩,by rw[World.cell?_of_block I];exact h.c0,by rw[World.cell?_of_block I];exact h.c1,?_,h.yz,h.yF,h.yY,h.yW,h.kN⟩
 ·obtain⟨Z,c1,aD,J,h2,h4⟩:=h.base.at_ i hi
  exact⟨by rw[World.cell?_of_block I];exact Z,by rw[World.cell?_of_block I];exact c1,aD.keep (U _ (h.yY i hi)),J,h2,h4⟩
 ·have J:=h.yb.set_ j (.int .u8 (x:Int))
  have e:(((List.range j).map (gB l k)++List.replicate (128-j) 0).map u8).toArray.setIfInBounds j (.int .u8 (x:Int))=(((List.range (j+1)).map (gB l k)++List.replicate (128-(j+1)) 0).map u8).toArray:=by
   rw[List.setIfInBounds_toArray]
   congr 1
   apply List.ext_getElem?
   intro i
   rw[List.getElem?_set]
   have aA:(((List.range j).map (gB l k)++List.replicate (128-j) 0).map u8).length=128:=by simp;omega
   rw[aA]
   have aE:(((List.range (j+1)).map (gB l k)++List.replicate (128-(j+1)) 0).map u8).length=128:=by simp;omega
   by_cases X:j=i
   ·subst X
    rw[if_pos rfl,if_pos hj,List.getElem?_map,List.getElem?_append_left (by simp),List.getElem?_map,List.getElem?_range (by omega),hx]
    rfl
   ·rw[if_neg X]
    by_cases hi:i<128
    ·by_cases aB:i<j
     ·rw[List.getElem?_map,List.getElem?_map,List.getElem?_append_left (by simp;omega),List.getElem?_append_left (by simp;omega),List.getElem?_map,List.getElem?_map,List.getElem?_range aB,List.getElem?_range (by omega)]
     ·rw[List.getElem?_map,List.getElem?_map,List.getElem?_append_right (by simp;omega),List.getElem?_append_right (by simp;omega),List.getElem?_replicate,List.getElem?_replicate]
      simp only[List.length_map,List.length_range]
      rw[if_pos (by omega),if_pos (by omega)]
    ·rw[List.getElem?_eq_none (by omega),List.getElem?_eq_none (by omega)]
  rw[e]at J
  exact J
theorem DcJ.done{y:Nat}(h:DcJ W F b z N l Y k a y 128 w):DcI W F b z N l (λi=>if i=k then y else Y i) (k+1) a w:=by
 refine⟨h.base.rd,h.base.blk,λi hi=>?_,h.base.adv,h.base.newF,h.base.hz,h.base.nz⟩
 by_cases e:i=k
 ·subst e
  simp only[if_true]
  have:=h.yb
  rw[show(128-128:Nat)=0 from rfl,List.replicate_zero,List.append_nil]at this
  exact⟨h.c0,h.c1,this,h.yz,h.yF,h.yW⟩
 ·simp only[if_neg e]
  exact h.base.at_ i (by omega)
theorem DcI.qrd{G:Nat->Prop}(h:DcI W F b z N l Y N a w)(V:N=gN l)(I:Bd G W):QRd w G (.slice (some ⟨z,0,none⟩) N N) (gP l):=by
 obtain⟨C,U,hC⟩:=h.blk
 have hl:(gP l).length=N:=by rw[V];simp[gP]
 have aA:=B91 l
 refine⟨_,N,by rw[hl],by omega,by unfold maxLen;omega,λhp=>⟨z,0,rfl,⟨U.lt,λx=>by have:=I z x;have:=h.hz;omega⟩,λi hi=>?_⟩⟩
 obtain⟨J,c1,hy,h1,h2,hY⟩:=h.at_ i (by omega)
 have e:(gP l)[i]'hi=gT l i:=by simp[gP]
 rw[e]
 have X:(gT l i).d.length=128:=by simp[gT]
 rw[X]
 refine⟨some ⟨Y i,0,none⟩,128,by rw[Nat.zero_add,Nat.add_zero];exact J,by rw[Nat.zero_add];exact c1,hy.rdS8 (by simp),λk Z _ x=>?_⟩
 have:Y i=k:=by simpa[Value.ownBlock]using Z
 have:=I k x
 omega
end
end
section
open Go.RowKit
def A3M(s:ByteArray):List Nat:=s.data.toList.map (·.toNat)
def K9(s:ByteArray):List Nat:=if s.size=0 then []else s.size::(A3M s++List.replicate (127-s.size) 0)
theorem A1w(s:ByteArray):(A3M s).length=s.size:=by unfold A3M;rw[List.length_map];rfl
theorem B86(s:ByteArray):∀x∈A3M s,x<256:=by
 unfold A3M
 intro x I
 obtain⟨b,_,rfl⟩:=List.mem_map.1 I
 exact b.toNat_lt
theorem B4n(s:ByteArray):A1V (A3M s)=s:=by
 apply V4
 simp only[A1V,strOfNums_data,List.map_map,A3M]
 conv=>rhs;rw[<-List.map_id s.data.toList]
 refine List.map_congr_left λx _=>?_
 simp[Function.comp]
theorem A0n{s:ByteArray}(h:0<s.size)(I:s.size<=127):(K9 s).length=128:=by
 unfold K9
 rw[if_neg (by omega)]
 simp[A1w]
 omega
theorem A8e{s:ByteArray}(J:s.size<=127):∀x∈K9 s,x<256:=by
 unfold K9
 split
 ·intro x I;cases I
 ·intro x I
  rcases List.mem_cons.1 I with rfl|I
  ·omega
  ·rcases List.mem_append.1 I with I|I
   ·exact B86 s x I
   ·rw[(List.mem_replicate.1 I).2];decide
section
variable {ops:Array Oper} {rest:List Oper} {o:Oper} {a:Act} {w:World} {Q:Exit->Act->World->Prop}
theorem A9C(I:o.guard=none)(x y:Operand)(J:o.op= .makeSlice 54 x y)(U:a.eval x= .int .i64 128)(V:a.eval y= .int .i64 128)
 (h:∀z w',w.heap.size<=z->C0 w' z 5 ((List.replicate 128 0).map u8).toArray->A8 B0 w B0 w'->wpList Tryz.prog ops Q rest (a.put o.dst (.slice (some ⟨z,0,none⟩) 128 128)) w'):wpList Tryz.prog ops Q (o::rest) a w:=by
 refine wpList_plain I λK hK=>?_
 unfold Oper.wp execOp
 simp only[J,U,V,Sem.run_bind,A9B,Result.andThen_ok]
 exact hK _ _ (h _ _ (Nat.le_refl _) (C0.new _ _ _) ((A8.refl _ _).alloc _))
theorem A8f(aA:o.guard=none)(d x:Operand)(ho:o.op=Op.call { callee:=Callee.builtin Builtin.copy,args:= #[d,x],argTypes:= #[54,9] })
 (z m:Nat) (t:TypeId) (s:ByteArray) (hd:a.eval d= .slice (some ⟨z,1,none⟩) 127 127) (hx:a.eval x= .string s) (hs:s.size<=127) (J:C0 w z t ((m::List.replicate 127 0).map u8).toArray)
 (h:∀w',C0 w' z t ((m::(A3M s++List.replicate (127-s.size) 0)).map u8).toArray->A8 (M0 z) w (M0 z) w'->wpList Tryz.prog ops Q rest (a.put o.dst (goInt s.size)) w'):wpList Tryz.prog ops Q (o::rest) a w:=by
 refine wpList_plain aA λK hK=>?_
 have aC:∀w:World,(Go.sizeOf 5).run Tryz.prog w= .ok 1 w:=λw=>by
  obtain⟨i0,hi,aE,aD,aF⟩:=info_parts Tryz.infoU8
  simp[Go.sizeOf,typeInfo,hi,aD]
 have aB:=run_copy_string (P:=Tryz.prog) w 54 9 o.type 5 z 1 127 127 s Tryz.underlying54 aC hs (λj U=>by rw[J.cell];simp;omega) (λj U=>J.frozen _)
 unfold Oper.wp
 simp[execOp,ho,resolve,invoke,builtin,hd,hx,aB,Result.andThen]
 refine hK _ _ (h _ ?_ (A8.isetCells _ _ _ (A8.refl _ _) (.inl rfl)))
 have X:=C0.setCells_ (s.data.toList.map λx=>Value.int .u8 (x.toNat:Int)) _ 1 _ J
 have e:A6R ((m::List.replicate 127 0).map u8).toArray 1 (s.data.toList.map λx=>Value.int .u8 (x.toNat:Int))=((m::(A3M s++List.replicate (127-s.size) 0)).map u8).toArray:=by
  have hl:(s.data.toList.map λx=>Value.int .u8 (x.toNat:Int)).length=s.size:=by rw[List.length_map];rfl
  have hv:(s.data.toList.map λx=>Value.int .u8 (x.toNat:Int))=(A3M s).map u8:=by unfold A3M;rw[List.map_map];rfl
  rw[hv]
  have I:((A3M s).map u8).length=s.size:=by rw[List.length_map,A1w]
  apply Array.ext_getElem?
  intro k
  rw[A7P _ _ _ _ (by rw[I];simp;omega),I]
  by_cases Z:k=0
  ·subst Z;simp
  ·obtain⟨j,rfl⟩:∃j,k=j+1:=⟨k-1,by omega⟩
   by_cases U:j<s.size
   ·rw[if_pos (by omega),Nat.add_sub_cancel]
    simp only[List.getElem?_toArray,List.map_cons,List.getElem?_cons_succ,List.map_append]
    rw[List.getElem?_append_left (by rw[I];exact U)]
   ·rw[if_neg (by omega)]
    simp only[List.getElem?_toArray,List.map_cons,List.getElem?_cons_succ,List.map_append,List.map_replicate]
    rw[List.getElem?_append_right (by rw[I];omega),I,List.getElem?_replicate,List.getElem?_replicate]
    by_cases V:j<127
    ·rw[if_pos V,if_pos (by omega)]
    ·rw[if_neg V,if_neg (by omega)]
 rw[e]at X
 exact X
end
theorem A7c(s:ByteArray)(w:World)(hs:s.size<=100):Calls Tryz.prog 89 #[.string s] w λe w'=>∃A c,e= .returned (.slice A (K9 s).length c)/\Rd w' 1 (.slice A (K9 s).length c) (K9 s).length ((K9 s).map u8)/\(∀k,(Value.slice A (K9 s).length c).ownBlock=some k->w.heap.size<=k)/\A8 B0 w B0 w':=by
 by_cases J:s.size=0
 ·have e:K9 s=[]:=by unfold K9;rw[if_pos J]
  rw[e]
  have hq:s=⟨#[]⟩:=by
   apply V4
   exact List.eq_nil_of_length_eq_zero (by simpa using J)
  subst hq
  clear e J hs
  go_enter Tryz.func89,Tryz.ntmps89
  go_wp2
  go_ret
  exact⟨none,0,rfl,(Sl.nil w 5 1).rd,λk h=>by simp[Value.ownBlock]at h,A8.refl _ _⟩
 ·have X:=A0n (s:=s) (by omega) (by omega)
  have hB:K9 s=s.size::(A3M s++List.replicate (127-s.size) 0):=by unfold K9;rw[if_neg J]
  rw[X]
  have aD:(s.toList==([]:List UInt8))=false:=by
   have V:=C0g s ⟨#[]⟩
   rw[decide_eq_false (λe=>J (by rw[e];rfl))]at V
   rw[ByteArray.toList_eq ⟨#[]⟩]at V
   exact V
  obtain⟨m,hm⟩:∃m,m=s.size:=⟨_,rfl⟩
  have hw:IntKind.u8.wrap ((s.size:Nat):Int)=(m:Int):=by rw[hm];simp[IntKind.wrap,IntKind.bits,IntKind.signed];omega
  have HB:=C3t hB
  have HS:=C3t hs
  have HL:=C3t X
  have HM:=C3t hm
  clear hB X J hs hm
  go_enter Tryz.func89,Tryz.ntmps89
  go_wp2_with (first
   |(refine A9C rfl _ _ rfl rfl rfl ?_;intro z w1 hz I U;have HZ:=C3t hz;have aC:=C3t I;have aB:=C3t U;have c0:w1.cell? ⟨z,0,none⟩=some (.int .u8 0):=I.cell 0;have f0:=I.frozen 0;clear hz I U)
   |(refine A8f rfl (.tmp 13) (.tmp 14) rfl z m 5 s rfl rfl (by have:=HS.out;omega) (aC.out.set_ 0 (.int .u8 (m:Int))) ?_;intro w3 I U;have HF:=C3t (And.intro I (aB.out.fresh HZ.out (((A8.refl (M0 z) w1).setCell (p:=⟨z,0,none⟩) (.inl rfl) _).trans U)));clear I U)
   |fail)
  go_ret
  have Z:=HF.out
  rw[HM.out]at Z
  refine⟨some ⟨z,0,none⟩,128,rfl,?_,λk hk=>?_,Z.2⟩
  ·have aA:=HL.out
   rw[HB.out]at aA⊢
   exact Z.1.rdS8 aA
  ·have:z=k:=by simpa[Value.ownBlock]using hk
   have:=HZ.out
   omega
def A6y(X:List Nat):ByteArray:=A1V ((X.drop 1).take (min (X.getD 0 0) 64))
open Classical in
noncomputable def A9D(X:List Nat):Int:=if K9 (A6y X)=X then 0 else 4
noncomputable def A0Y(H:Nat->List Nat)(a:Int):Int:=if a=0 then 0 else A9D (H a.toNat)
noncomputable def A2k(H:Nat->List Nat)(a:Int):ByteArray:=if a=0 then⟨#[]⟩else if A9D (H a.toNat)=0 then A6y (H a.toNat)else⟨#[]⟩
theorem B4o(l:List Nat):(A1V l).size=l.length:=by
 have:(A1V l).data.toList.length=l.length:=by simp only[A1V,strOfNums_data,List.length_map]
 simpa using this
theorem B4p(X:List Nat):(A6y X).size<=64:=by
 unfold A6y
 rw[B4o,List.length_take]
 omega
theorem B4q{s:ByteArray}(h:0<s.size)(I:s.size<=64):A6y (K9 s)=s/\A9D (K9 s)=0:=by
 have e:A6y (K9 s)=s:=by
  unfold A6y K9
  rw[if_neg (by omega)]
  simp only[List.drop_succ_cons,List.drop_zero,List.getD_cons_zero]
  rw[show min s.size 64=s.size by omega,List.take_left' (A1w s),B4n]
 exact⟨e,by unfold A9D;rw[e,if_pos rfl]⟩
section
variable {p M:Nat} {H:Nat->List Nat} {w:World}
theorem C0t(h:Rdv w p M H)(hs:Sd H M)(a:Int)(ha:a=0\/(42<=a/\a<M)):Calls Tryz.prog 87 #[.pointer (some ⟨p,0,none⟩),.int .i64 a] w λe w'=>e= .returned (.tuple #[.string (A2k H a),.int .i64 (A0Y H a)])/\A8 B0 w B0 w':=by
 by_cases Z:a=0
 ·subst Z
  have e1:A2k H 0=⟨#[]⟩:=by unfold A2k;rw[if_pos rfl]
  have e2:A0Y H 0=0:=by unfold A0Y;rw[if_pos rfl]
  rw[e1,e2]
  clear e1 e2 ha h hs
  go_enter Tryz.func87,Tryz.ntmps87
  go_wp2
  go_ret2
  exact⟨rfl,A8.refl _ _⟩
 ·have aS:42<=a/\a<M:=by rcases ha with e|e;exact absurd e Z;exact e
  have aX:(a==0)=false:=by rw[beq_eq_false_iff_ne];exact Z
  have aC:=h.home _ _ (A8.refl B0 w) a.toNat (by omega)
  rw[Int.toNat_of_nonneg (by omega)]at aC
  obtain⟨aI,aD⟩:=hs.row a.toNat (by omega)
  have e1:A2k H a=if A9D (H a.toNat)=0 then A6y (H a.toNat)else⟨#[]⟩:=by unfold A2k;rw[if_neg Z]
  have e2:A0Y H a=A9D (H a.toNat):=by unfold A0Y;rw[if_neg Z]
  rw[e1,e2]
  obtain⟨X,hX⟩:∃X,X=H a.toNat:=⟨_,rfl⟩
  rw[<-hX]at aC aI aD⊢
  have aP:=C3t aC
  have aW:=C3t aI
  have aR:=C3t aD
  obtain⟨U,aA⟩:∃U,U=X.getD 0 0:=⟨_,rfl⟩
  obtain⟨n,hn⟩:∃n,n=min U 64:=⟨_,rfl⟩
  have HN:=C3t (show n<=64/\n=min U 64 from⟨by omega,hn⟩)
  have bA:(U:Int)<256:=by
   have:=aD (X[0]'(by omega)) (List.getElem_mem _)
   rw[aA,List.getD_eq_getElem?_getD,List.getElem?_eq_getElem (by omega)]
   simp only[Option.getD_some]
   omega
  have aY:min (U:Int) 64=(n:Int):=by omega
  have aZ:(n:Int)<=64:=by omega
  have aV:=C3t aA
  have aN:=C3t (λ(w1:World) (z:Nat) (I:Rd w1 1 (.slice (some ⟨z,0,none⟩) 128 128) 128 (X.map u8))=>show w1.cell? ⟨z,0,none⟩=some (.int .u8 (U:Int))by
   obtain⟨b,o,e,hb,hc⟩:=I.cells (by omega) (by decide)
   cases e
   have:=hc 0 (u8 U) (by rw[List.getElem?_map,List.getElem?_eq_getElem (by omega),aA,List.getD_eq_getElem?_getD,List.getElem?_eq_getElem (by omega)];rfl)
   exact this)
  obtain⟨S,hS⟩:∃S,S=A6y X:=⟨_,rfl⟩
  have aO:=C3t (λ(w1:World) (z:Nat) (I:Rd w1 1 (.slice (some ⟨z,0,none⟩) 128 128) 128 (X.map u8))=>show(convert 54 9 (.slice (some ⟨z,1,none⟩) n 127)).run Tryz.prog w1= .ok (.string S) w1 by
   obtain⟨b,o,e,hb,hc⟩:=I.cells (by omega) (by decide)
   cases e
   have aU:Rd w1 1 (.slice (some ⟨z,1,none⟩) n 127) n (((X.drop 1).take n).map u8):=by
    refine⟨_,127,rfl,by omega,by unfold maxLen;omega,by simp;omega,λe=>(by cases e),λ_=>⟨_,rfl,hb,λj u hu=>?_⟩⟩
    rw[List.getElem?_map,List.getElem?_take]at hu
    split at hu
    ·rw[List.getElem?_drop]at hu
     have:=hc (1+j) u (by rw[List.getElem?_map];exact hu)
     rw[add_none]
     simpa[Nat.zero_add]using this
    ·cases hu
   have:=A0j aU
   rw[this,hS,A6y,hn,aA])
  rw[<-hS]
  have aQ:=C3t (show S.size<=100 by rw[hS];have:=B4p X;omega)
  have hE:A9D X=if K9 S=X then 0 else 4:=by unfold A9D;rw[<-hS]
  rw[hE]
  clear hE hS
  clear ha aS Z h hs aC aI aD hX e1 e2 hn aA
  have aB:=C3t (λW=>A7c S W aQ.out)
  obtain⟨B,hB⟩:∃B,B=K9 S:=⟨_,rfl⟩
  have aM:=C3t (show∀x∈B,x<256 by rw[hB];exact A8e (by have:=aQ.out;omega))
  rw[<-hB]at aB⊢
  obtain⟨m,hm⟩:∃m,m=B.length:=⟨_,rfl⟩
  rw[<-hm]at aB
  clear hB hm
  by_cases hq:B=X
  ·rw[if_pos hq,if_pos rfl]
   have aF:=C3t (decide_eq_true hq)
   clear hq
   go_enter Tryz.func87,Tryz.ntmps87
   go_wp2_with (first
    |(go_at_call 94;refine aP.out.mono ?_;rintro e w1 ⟨z,rfl,aK,aL,I,V,hA⟩;have HR:=C3t I;have HA:=C3t hA;have c0:=aN.out w1 z I;have aT:=aO.out w1 z I;clear aK aL I V hA)
    |(go_at_call 89;refine(aB.out w1).mono ?_;rintro e w2 ⟨A2,c2,rfl,h2,aJ,J⟩;have aH:=C3t h2;have aE:=C3t (HA.out.trans J);have aG:=C3t (HR.out.far (λ_ _ _ V=>J.block _ V (λx=>x)) J.size);clear h2 aJ J)
    |(go_at_call 72;refine(Z9 _ _ _ _ _ _ w2 aH.out aG.out aM.out aR.out).mono ?_;rintro e w3 ⟨rfl,rfl⟩;rw[aF.out])
    |fail)
   go_ret2
   exact⟨rfl,aE.out⟩
  ·rw[if_neg hq,if_neg (by decide)]
   have aF:=C3t (decide_eq_false hq)
   clear hq
   go_enter Tryz.func87,Tryz.ntmps87
   go_wp2_with (first
    |(go_at_call 94;refine aP.out.mono ?_;rintro e w1 ⟨z,rfl,aK,aL,I,V,hA⟩;have HR:=C3t I;have HA:=C3t hA;have c0:=aN.out w1 z I;have aT:=aO.out w1 z I;clear aK aL I V hA)
    |(go_at_call 89;refine(aB.out w1).mono ?_;rintro e w2 ⟨A2,c2,rfl,h2,aJ,J⟩;have aH:=C3t h2;have aE:=C3t (HA.out.trans J);have aG:=C3t (HR.out.far (λ_ _ _ V=>J.block _ V (λx=>x)) J.size);clear h2 aJ J)
    |(go_at_call 72;refine(Z9 _ _ _ _ _ _ w2 aH.out aG.out aM.out aR.out).mono ?_;rintro e w3 ⟨rfl,rfl⟩;rw[aF.out])
    |fail)
   go_ret2
   exact⟨rfl,aE.out⟩
end
end
section
open Go.RowKit
structure Ev where
 F:Nat->Prop
 d:Nat
 l:Nat
 b:Nat
 n:Nat
 N:Nat
 s:DS
 g:LS
 o:Nat
 mo:Nat
 O:Nat->Option (List Nat)
def Ev.M(E:Ev):Nat:=E.N-2-E.n
def Ev.L(E:Ev):Nat->List Nat:=D3 E.s E.n E.g
def Ev.H(E:Ev):Nat->List Nat:=vwH E.O E.L
def Ev.U(E:Ev):Nat->Prop:=UF E.F E.l E.b
structure So (w:World) (E:Ev):Prop where
 vu:Vu w E.F E.d E.l E.b E.n E.N E.s E.g E.o E.mo E.O
 blk:C0 w E.o 88 #[.pointer (some ⟨E.l,0,none⟩),.map (some E.mo)]
 so:¬E.U E.o
 sm:¬E.U E.mo
def CF(c m:Nat):Nat->Prop:=λk=>k=c\/k=m
structure Cg (w:World) (E:Ev) (c m:Nat) (H:Nat->List Nat) (e:Int):Prop where
 so:So w E
 ex:∃A,Mp w m E.M A/\AOk E.M A/\H=vwH A E.L/\∀i,(E.O i).isSome=true->(A i).isSome=true
 blk:C0 w c 175 #[.pointer (some ⟨E.l,0,none⟩),.map (some m),.pointer (some ⟨E.o,0,none⟩),.int .i64 e]
 sc:¬E.U c/\c≠E.o/\c≠E.mo
 sm:¬E.U m/\m≠E.o/\m≠E.mo
def M4(H:Nat->List Nat)(i:Nat)(l:List Nat):Nat->List Nat:=λj=>if j=i then l else H j
def L7(e I:Int):Int:=if e=0 then I else e
def A0u(e:Int)(H:Nat->List Nat)(i:Nat)(l:List Nat):Nat->List Nat:=if e=0 then M4 H i l else H
theorem B87(A:Nat->Option (List Nat))(L:Nat->List Nat)(i:Nat)(l:List Nat):vwH (P3 A i l) L=M4 (vwH A L) i l:=by
 funext j
 unfold vwH P3 M4
 by_cases e:j=i
 ·rw[if_pos e,if_pos e];rfl
 ·rw[if_neg e,if_neg e]
section
variable {w w':World} {E:Ev} {c m:Nat} {H:Nat->List Nat} {e:Int} {F':Nat->Prop}
theorem So.step(h:So w E)(I:A8 B0 w F' w'):So w' E:=⟨h.vu.step I,h.blk.over I,h.so,h.sm⟩
theorem So.far{G:Nat->Prop}(h:So w E)(I:A8 G w G w')(V:∀k,G k->¬E.U k)(J:¬G E.o)(X:¬G E.mo):So w' E:=by
 have hs:Sep G (UF E.F E.l E.b):=λk a b=>V k a b
 have Z:=h.vu.rs.bd
 refine⟨⟨⟨h.vu.rs.dk.far I (λk a b=>V k a (.inl b)),h.vu.rs.lg.far I (λk a b=>V k a (.inr b)),h.vu.rs.sep⟩,h.vu.hn,h.vu.lA,?_,?_,Nat.lt_of_lt_of_le h.vu.lt I.size,h.vu.mp.keep (I.block _ h.vu.mp.lt X),h.vu.ok⟩,h.blk.keep (I.block _ h.blk.lt J),h.so,h.sm⟩
 ·exact(World.cell?_of_block (I.block _ h.vu.lt J)).trans h.vu.c0
 ·exact(World.cell?_of_block (I.block _ h.vu.lt J)).trans h.vu.c1
theorem Cg.step(h:Cg w E c m H e)(I:A8 B0 w F' w'):Cg w' E c m H e:=by
 obtain⟨A,J,U,h3,V⟩:=h.ex
 exact⟨h.so.step I,⟨A,J.keep (I.block _ J.lt (λx=>x)),U,h3,V⟩,h.blk.over I,h.sc,h.sm⟩
theorem Cg.lt(h:Cg w E c m H e):c<w.heap.size/\m<w.heap.size:=by
 obtain⟨A,I,_⟩:=h.ex
 exact⟨h.blk.lt,I.lt⟩
theorem Cg.so_far(h:Cg w E c m H e)(J:A8 (CF c m) w (CF c m) w'):So w' E:=
 h.so.far J (λk I=>by rcases I with rfl|rfl;exact h.sc.1;exact h.sm.1) (λI=>by rcases I with I|I;exact h.sc.2.1 I.symm;exact h.sm.2.1 I.symm) (λI=>by rcases I with I|I;exact h.sc.2.2 I.symm;exact h.sm.2.2 I.symm)
theorem Cg.rdv(h:Cg w E c m H e):Rdv w c E.M H:=by
 obtain⟨A,I,J,rfl,_⟩:=h.ex
 exact Vu.rdv (F:=E.F) (d:=E.d) (l:=E.l) (b:=E.b) (s:=E.s) (g:=E.g) (m:=m) ⟨h.so.vu.rs,h.so.vu.hn,h.so.vu.lA,h.blk.cell 0,h.blk.cell 1,h.blk.lt,I,J⟩
theorem Cg.ne(h:Cg w E c m H e):c≠m:=by
 obtain⟨A,I,_⟩:=h.ex
 exact I.ne h.blk
theorem U8(h:Cg w E c m H e)(I:Int):Calls Tryz.prog 101 #[.pointer (some ⟨c,0,none⟩),.int .i64 I] w λr w'=>r= .returned (.tuple #[])/\Cg w' E c m H (L7 e I)/\A8 (CF c m) w (CF c m) w':=by
 have Z:=C3t h
 have c3:w.cell? ⟨c,3,none⟩=some (.int .i64 e):=h.blk.cell 3
 have f3:w.frozen? ⟨c,3,none⟩=false:=h.blk.frozen 3
 by_cases J:e=0
 ·have U:L7 e I=I:=by unfold L7;rw[if_pos J]
  rw[U]
  have V:=C3t (show∀w',w'=w.setCell ⟨c,3,none⟩ (.int .i64 I)->Cg w' E c m H I/\A8 (CF c m) w (CF c m) w' fromλw' hw=>by
   subst hw
   have X:A8 (CF c m) w (CF c m) (w.setCell ⟨c,3,none⟩ (.int .i64 I)):=(A8.refl _ _).setCell (.inl (.inl rfl)) _
   obtain⟨A,h1,h2,h3,h4⟩:=h.ex
   have aA:=h.ne
   exact⟨⟨h.so_far X,⟨A,h1.keep (Below.heap_setCell _ _ _ _ (λx=>aA x.symm)),h2,h3,h4⟩,h.blk.set_ 3 _,h.sc,h.sm⟩,X⟩)
  subst J
  clear h U
  go_enter Tryz.func101,Tryz.ntmps101
  go_wp2
  exact bodyPost_end (v:=.tuple #[]) (by simp[results,Tryz.results101,go_sem]) rfl ⟨rfl,(V.out _ rfl).1,(V.out _ rfl).2⟩
 ·have U:L7 e I=e:=by unfold L7;rw[if_neg J]
  rw[U]
  have hb:(e==0)=false:=by rw[beq_eq_false_iff_ne];exact J
  clear h U J
  go_enter Tryz.func101,Tryz.ntmps101
  go_wp2
  exact bodyPost_end (v:=.tuple #[]) (by simp[results,Tryz.results101,go_sem]) rfl ⟨rfl,Z.out,A8.refl _ _⟩
end
end
section
open Go.RowKit Go.Maps
section
variable {ops:Array Oper} {o:Oper} {a:Act} {w:World} {Q:Exit->Act->World->Prop} {K:Act->World->Prop} {E:Prop}
theorem B61(U:o.guard=none)(x:Operand)(X:o.op= .load 173 x)(b I:Nat)(l:List Nat)(V:l.length=128)(J:w.rangeAt b I (l.map u8))(Z:a.eval x= .pointer (some ⟨b,I,none⟩))
 (h:K (a.put o.dst (.agg (l.map u8).toArray)) w):if Region.wanted o (yielded ops a.tmps)=true then Oper.wp Tryz.prog o a w K Q else E:=by
 rw[if_pos (by simp[Region.wanted,U])]
 exact wp_load_mid 173 x X b I Z (l.map u8) _ J Tryz.underlying173 rfl (by rw[S5,List.length_map,V]) h
theorem B88(I:o.guard=none)(x:Operand)(J:o.op= .sliceToArrayPointer 173 x)(A:Option Addr)(c:Nat)(U:a.eval x= .slice A 128 c)
 (h:K (a.put o.dst (.pointer A)) w):if Region.wanted o (yielded ops a.tmps)=true then Oper.wp Tryz.prog o a w K Q else E:=by
 rw[if_pos (by simp[Region.wanted,I])]
 unfold Oper.wp execOp
 simp[J,U,Instr.arrayAt,run_underlying Tryz.underlying173,Result.andThen]
 exact h
theorem B89(aA:o.guard=none)(m x v:Operand)(ho:o.op=Op.mapUpdate 86 m x v)(b N i:Nat)(A:Nat->Option (List Nat))(l:List Nat)(Z:Mp w b N A)(hm:a.eval m= .map (some b))(hx:a.eval x= .int .i64 (i:Int))(hv:a.eval v= .agg (l.map u8).toArray)(hi:i<N)(hN:N<=4096)
 (hK:∀w',Mp w' b N (P3 A i l)->w.grownBy w' (some b)->K (a.put o.dst undef) w'):if Region.wanted o (yielded ops a.tmps)=true then Oper.wp Tryz.prog o a w K Q else E:=by
 rw[if_pos (by simp[Region.wanted,aA])]
 obtain⟨D,h,d⟩:=Z
 obtain⟨w',aB,r1,r2⟩:=h.update M5 Tryz.underlying86 (by have:=A5s A N;unfold maxLen;omega) (A20 (i:=i) (by omega)) (A0N l)
 unfold Oper.wp
 simp[execOp,ho,hm,hx,hv,aB,Result.andThen]
 refine hK w' ⟨_,?_,d.put hi⟩ r2
 obtain⟨U,c,V,X,h3,J⟩:=r1
 refine⟨U,c,V,X,?_,J⟩
 have I:=(d.put (l:=l) hi).size
 rw[J]at I
 rw[<-I]
 simp[Maps.size,length_sorted]
end
section
variable {w w':World} {E:Ev} {c m:Nat} {H:Nat->List Nat} {e:Int} {F':Nat->Prop}
theorem A7d(h:Cg w E c m H e)(i:Int)(A0:Option Addr)(n0 k0:Nat)(x:List Nat)(h0:e=0->∃j:Nat,i=(j:Int)/\j<E.M/\n0=128/\x.length=128/\(∀y∈x,y<256)/\Rd w 1 (.slice A0 128 k0) 128 (x.map u8)):
 Calls Tryz.prog 98 #[.pointer (some ⟨c,0,none⟩),.int .i64 i,.slice A0 n0 k0] w λr w'=>r= .returned (.tuple #[])/\Cg w' E c m (A0u e H i.toNat x) e/\A8 (CF c m) w (CF c m) w':=by
 have c2:w.cell? ⟨c,3,none⟩=some (.int .i64 e):=h.blk.cell 3
 by_cases J:e=0
 ·obtain⟨j,rfl,hj,rfl,hl,h8,hr⟩:=h0 J
  subst J
  have V:A0u 0 H (j:Int).toNat x=M4 H j x:=by unfold A0u;rw[if_pos rfl,Int.toNat_natCast]
  rw[V]
  obtain⟨A,h1,h2,h3,h4⟩:=h.ex
  obtain⟨b,o,rfl,hb,hc⟩:=hr.cells (by decide) (by decide)
  have HJ:=C3t hj
  have aF:=C3t (show E.M<=4096 by have:=h.so.vu.hn;unfold Ev.M;omega)
  have HL:=C3t hl
  have aH:=C3t (show w.drew.rangeAt b o (x.map u8)from hc)
  have aG:=C3t (show Mp w.drew m E.M A from h1)
  have X:=C3t (show w.cell? ⟨c,1,none⟩=some (.map (some m))from h.blk.cell 1)
  have Z:=C3t (show w.drew.cell? ⟨c,1,none⟩=some (.map (some m))from h.blk.cell 1)
  have aE:=C3t (show∀I,Mp I m E.M (P3 A j x)->w.drew.grownBy I (some m)->I.cell? ⟨c,1,none⟩=some (.map (some m))/\Cg I E c m (M4 H j x) 0/\A8 (CF c m) w (CF c m) I fromλI aB U=>by
   have ha:A8 (CF c m) w (CF c m) I:=(A8.refl (CF c m) w).drew.grown U (λk e=>.inl (.inr (Option.some.inj e).symm))
   have aD:=h.blk.keep (U.block c h.blk.lt (λe=>h.ne (Option.some.inj e)))
   refine⟨aD.cell 1,⟨h.so_far ha,⟨P3 A j x,aB,h2.set hj hl h8,by rw[B87,h3],λi hi=>?_⟩,aD,h.sc,h.sm⟩,ha⟩
   have:=h4 i hi
   unfold P3
   split
   ·rfl
   ·exact this)
  clear h0 V h1 h2 h3 h4 hb hc hr hj hl h8 h
  go_enter Tryz.func98,Tryz.ntmps98
  go_upto_region 1 with(fail)
  refine E6 (S:=(λw'=>w'.cell? ⟨c,1,none⟩=some (.map (some m)))) (by with_reducible first|exact aA.out|exact Z.out|exact X.out) (λhH=>?_)
  refine C3u 0 rfl ?_
  refine C3u 1 rfl ?_
  refine C3u 2 rfl ?_
  refine C3u 3 rfl ?_
  refine C3u 4 rfl ?_
  refine C3u 5 rfl ?_
  refine C3u 6 rfl ?_
  refine C3v 7 rfl (λK hK=>?_)
  refine B88 rfl _ rfl (some ⟨b,o,none⟩) k0 rfl ?_
  refine C3w hK (by with_reducible first|exact aA.out|exact Z.out|exact X.out) ?_
  clear hK K hH
  intro hH
  try simp only[Act.put,sA,sB,sC]
  refine C3v 8 rfl (λK hK=>?_)
  refine B61 rfl _ rfl b o x HL.out aH.out rfl ?_
  refine C3w hK (by with_reducible first|exact aA.out|exact Z.out|exact X.out) ?_
  clear hK K hH
  intro hH
  try simp only[Act.put,sA,sB,sC]
  refine C3v 9 rfl (λK hK=>?_)
  refine B89 rfl _ _ _ rfl m E.M j A x aG.out rfl rfl rfl HJ.out aF.out ?_
  intro I aB U
  have aC:=C3t (aE.out I aB U)
  have aA:=C3t (aC.out.1)
  clear aB U
  refine C3w hK (by with_reducible first|exact aA.out|exact Z.out|exact X.out) ?_
  clear hK K hH
  intro hH
  try simp only[Act.put]
  refine wpAnyH_done (by kernel_rfl) ?_ _
  go_wp2_with fail
  exact bodyPost_end (results_none rfl _ _ _) rfl ⟨rfl,aC.out.2⟩
 ·have V:A0u e H i.toNat x=H:=by unfold A0u;rw[if_neg J]
  rw[V]
  have HC:=C3t h
  have hb:(e==0)=false:=by rw[beq_eq_false_iff_ne];exact J
  clear h h0 V J
  go_enter Tryz.func98,Tryz.ntmps98
  go_wp2
  exact bodyPost_end (results_none rfl _ _ _) rfl ⟨rfl,HC.out,A8.refl _ _⟩
end
end
section
open Go.RowKit
theorem A8.freshG{G F':Nat->Prop}{w w1 w2:World}{z:Nat}(h:A8 G w G w1)(J:w.heap.size<=z)(k:A8 (M0 z) w1 F' w2):A8 G w G w2:=
 ⟨k.os.trans h.os,k.tape.trans h.tape,k.output.trans h.output,Nat.le_trans h.size k.size,λi hi I=>(k.block i (Nat.lt_of_lt_of_le hi h.size) (λe=>by unfold M0 at e;omega)).trans (h.block i hi I),λ_ x=>.inl x⟩
open Classical in
noncomputable def mapB(T:List Bool):List Nat:=if h:∃r,Rep r T then h.choose else []
theorem Rep.mapB{r:List Nat}{T:List Bool}(h:Rep r T):mapB T=r:=by
 unfold Go.Proofs.YtbefmjiclpobjaaGreat.mapB
 rw[dif_pos ⟨r,h⟩]
 exact(Exists.choose_spec (⟨r,h⟩:∃r,Rep r T)).inj h
def A6z(x:L6):Int:=if okI x then 0 else 2
section
variable {w w' w0 w1 w2:World} {E:Ev} {c m:Nat} {H H0:Nat->List Nat} {e e0:Int} {F' F:Nat->Prop}
theorem So.bd(h:So w E):(∀k,E.U k->k<w.heap.size)/\E.o<w.heap.size/\E.mo<w.heap.size:=⟨λk I=>h.vu.rs.bd k I,h.blk.lt,h.vu.mp.lt⟩
theorem Cg.freshA{G:Nat->Prop}(U:Cg w0 E c m H0 e0)(h:Cg w1 E c m H e)(hd:∀k,G k->w0.heap.size<=k)(ha:A8 G w1 F w2):Cg w2 E c m H e:=by
 obtain⟨Z,b2,b3⟩:=U.so.bd
 obtain⟨b4,b5⟩:=U.lt
 have J:A8 G w1 G w2:=ha.same (λ_ x=>x)
 have I:∀k,k<w0.heap.size->¬G k:=λk X hg=>by have:=hd k hg;omega
 obtain⟨A,V,h2,h3,h4⟩:=h.ex
 exact⟨h.so.far J (λk X hu=>I k (Z k hu) X) (I _ b2) (I _ b3),⟨A,V.keep (J.block m V.lt (I _ b5)),h2,h3,h4⟩,h.blk.keep (J.block c h.blk.lt (I _ b4)),h.sc,h.sm⟩
theorem Cg.fresh{d:Nat}(I:Cg w0 E c m H0 e0)(h:Cg w1 E c m H e)(V:w0.heap.size<=d)(J:A8 (M0 d) w1 F w2):Cg w2 E c m H e:=
 Cg.freshA I h (G:=M0 d) (λk U=>by unfold M0 at U;omega) J
theorem Cg.apart(I:Cg w0 E c m H0 e0){G:Nat->Prop}(J:∀k,G k->w0.heap.size<=k):Sep (CF c m) G:=λk V U=>by
 obtain⟨X,Z⟩:=I.lt
 have:=J k U
 rcases V with rfl|rfl<;>omega
theorem Sl.past{t:TypeId}{I n:Nat}{v:Value}{xs:List Value}(s:Sl w1 F t I v n xs)(J:Cg w0 E c m H0 e0)(hF:∀k,F k->w0.heap.size<=k)(U:A8 (CF c m) w1 F' w2):Sl w2 F t I v n xs:=
 s.far (U.same (λ_ x=>x)) (J.apart hF)
theorem A8.newS{w w1:World}{F:Nat->Prop}(h:A8 B0 w F w1):∀k,F k->w.heap.size<=k:=λk I=>by
 rcases h.into k I with x|x
 ·exact x.elim
 ·exact x
theorem Am.past{d:Nat}{T:List Bool}(s:Am w1 d T)(I:Cg w0 E c m H0 e0)(V:w0.heap.size<=d)(J:A8 (CF c m) w1 F' w2):Am w2 d T:=
 s.far J (λU=>I.apart (G:=M0 d) (λk e=>by unfold M0 at e;omega) d U rfl)
theorem A7e(h:Cg w E c m H e)(i:Nat)(hi:i<=40)(x:L6)(hx:WfI x)(hM:46<=E.M):
 Calls Tryz.prog 104 #[.pointer (some ⟨c,0,none⟩),.int .i64 (i:Int),.agg (ic x)] w λr w'=>r= .returned (.tuple #[])/\Cg w' E c m (A0u (L7 e (A6z x)) H (1+i) (secI x)) (L7 e (A6z x))/\A8 (CF c m) w (CF c m) w':=by
 have Z:=C3t h
 have HE:=C3t (λW=>A4g x hx W)
 have HN:=C3t (λ(W:World) (a:Cg W E c m H e)=>U8 a (A6z x))
 have HI:=C3t hi
 have HM:=C3t hM
 obtain⟨j,hj⟩:∃j,j=1+i:=⟨_,rfl⟩
 have hw:IntKind.i64.wrap (1+(i:Int))=(j:Int):=by rw[IntKind.wrap_i64];omega
 rw[<-hj]
 obtain⟨U,V⟩:∃U,U=L7 e (A6z x):=⟨_,rfl⟩
 have aA:=C3t (show U=0->okI x by
  intro I
  rw[V]at I
  unfold L7 A6z at I
  split at I
  ·split at I
   ·assumption
   ·cases I
  ·rename_i h1
   exact absurd I h1)
 rw[<-V]at HN⊢
 have HJ:=C3t (show j<E.M by omega)
 clear h hx hi hM hj V
 go_enter Tryz.func104,Tryz.ntmps104
 go_wp2_with (first
  |(refine C4 rfl _ rfl rfl ?_;intro z0 w0 hz hb ha;have aC:=C3t hb;have aB:=C3t ha;clear hz hb ha)
  |(refine C3 rfl _ rfl z0 aC.out rfl Tryz.underlying62 rfl B7 (C2 _) ?_)
  |(go_at_call 71;refine(HE.out _).mono ?_;rintro r w2 ⟨A2,m2,k2,F2,rfl,a2,hy,aF⟩;have HY:=C3t hy;have J:=C3t (aB.out.trans a2);have aD:=C3t (Z.out.step J.out);clear a2 hy aF)
  |(go_at_call 101;refine(HN.out w2 aD.out).mono ?_;rintro r w3 ⟨rfl,c3,a3⟩;have aE:=C3t c3;have X:=C3t a3;clear c3 a3)
  |(go_at_call 98;refine(A7d aE.out (j:Int) A2 m2 k2 (secI x) (λI=>⟨j,rfl,HJ.out,(HY.out (aA.out I)).1,A1n x,A4F x,((HY.out (aA.out I)).2.past Z.out (A8.newS J.out) X.out).rd⟩)).mono ?_;rintro r w4 ⟨rfl,c4,a4⟩;have HF:=C3t (And.intro c4 (((J.out.same (G:=CF c m) (λ_ x=>x.elim)).trans X.out).trans a4));clear c4 a4)
  |fail)
 all_goals exact bodyPost_end (results_none rfl _ _ _) rfl ⟨rfl,by have:=HF.out.1;rwa[Int.toNat_natCast]at this,HF.out.2⟩
theorem C0u(h:Cg w E c m H e)(hs:Sd H E.M):
 Calls Tryz.prog 144 #[.pointer (some ⟨c,0,none⟩)] w λr w'=>r= .returned (.int .i64 (T2 (C8 H E.M)))/\Cg w' E c m (A0u (L7 e (T3 (C8 H E.M))) H 1 (mapB (T9 (C8 H E.M)))) (L7 e (T3 (C8 H E.M)))/\A8 (CF c m) w (CF c m) w':=by
 have U:=C3t h
 have HT:=C3t (B28 h.rdv hs)
 have HM:=C3t hs.hM
 obtain⟨T,hT⟩:∃T,T=C8 H E.M:=⟨_,rfl⟩
 rw[<-hT]at HT⊢
 have aE:L7 e 0=e:=by unfold L7;split<;>simp_all
 have aC:=C3t (λ(W:World) (a:Cg W E c m H e)=>show Calls Tryz.prog 101 #[.pointer (some ⟨c,0,none⟩),.int .i64 0] W λr w'=>r= .returned (.tuple #[])/\Cg w' E c m H e/\A8 (CF c m) W (CF c m) w' by have:=U8 a 0;rwa[aE]at this)
 have HN:=C3t (λ(W:World) (a:Cg W E c m H e)=>U8 a (T3 T))
 obtain⟨te,X⟩:∃te,te=T3 T:=⟨_,rfl⟩
 obtain⟨ti,aB⟩:∃ti,ti=T2 T:=⟨_,rfl⟩
 obtain⟨T',aA⟩:∃T',T'=T9 T:=⟨_,rfl⟩
 have aD:=C3t (λ(W:World) (d:Nat) (a:Am W d T)=>B8d W d T a)
 rw[<-X,<-aB,<-aA]at aD
 rw[<-X]at HN
 rw[<-X,<-aB,<-aA]
 clear h hs aE hT X aB aA
 go_enter Tryz.func144,Tryz.ntmps144
 go_wp2_with (first
  |(go_at_call 99;refine HT.out.mono ?_;rintro r w1 ⟨d,rfl,J,I⟩;have aK:=C3t J;have aO:=C3t (U.out.step I);have V:=C3t (I.newS d rfl);have aF:=C3t (I.same (G:=CF c m) (λ_ x=>x.elim));clear J I)
  |(go_at_call 101;refine(aC.out w1 aO.out).mono ?_;rintro r w2 ⟨rfl,J,I⟩;have aP:=C3t J;have aG:=C3t (aF.out.trans I);have aL:=C3t (aK.out.past U.out V.out I);clear J I aC)
  |(go_at_call 183;refine(aD.out w2 d aL.out).mono ?_;rintro r w3 ⟨rfl,J,I⟩;have aM:=C3t J;have aQ:=C3t (U.out.fresh aP.out V.out I);have aH:=C3t (aG.out.freshG V.out I);clear J I)
  |(go_at_call 101;refine(HN.out w3 aQ.out).mono ?_;rintro r w4 ⟨rfl,J,I⟩;have aR:=C3t J;have aI:=C3t (aH.out.trans I);have aN:=C3t (aM.out.past U.out V.out I);clear J I)
  |(go_at_call 103;refine(A5y w4 d T' aN.out).mono ?_;rintro r w5 ⟨z,rr,rfl,J,I,h3⟩;have Z:=C3t J;have HS:=C3t I;have aS:=C3t (aR.out.step h3);have aJ:=C3t (aI.out.over h3);clear J I h3)
  |(go_at_call 98;refine(A7d aS.out 1 (some ⟨z,0,none⟩) 128 128 rr (λ_=>⟨1,rfl,by have:=HM.out;omega,rfl,Z.out.len,Z.out.lt,HS.out.rd⟩)).mono ?_;rintro r w6 ⟨rfl,J,I⟩;have HF:=C3t (And.intro J (aJ.out.trans I));clear J I)
  |fail)
 go_ret
 refine⟨rfl,?_,HF.out.2⟩
 have:=HF.out.1
 rw[<-Z.out.mapB]at this
 exact this
theorem C0v(h:Cg w E c m H e)(hs:Sd H E.M)(i:Int):
 Calls Tryz.prog 143 #[.pointer (some ⟨c,0,none⟩),.int .i64 i] w λr w'=>r= .returned (.tuple #[])/\Cg w' E c m (A0u (L7 e (A0W (C8 H E.M) i)) H 1 (mapB (U3 (C8 H E.M) i))) (L7 e (A0W (C8 H E.M) i))/\A8 (CF c m) w (CF c m) w':=by
 have U:=C3t h
 have HT:=C3t (B28 h.rdv hs)
 have HM:=C3t hs.hM
 obtain⟨T,hT⟩:∃T,T=C8 H E.M:=⟨_,rfl⟩
 rw[<-hT]at HT⊢
 have aD:L7 e 0=e:=by unfold L7;split<;>simp_all
 have aB:=C3t (λ(W:World) (a:Cg W E c m H e)=>show Calls Tryz.prog 101 #[.pointer (some ⟨c,0,none⟩),.int .i64 0] W λr w'=>r= .returned (.tuple #[])/\Cg w' E c m H e/\A8 (CF c m) W (CF c m) w' by have:=U8 a 0;rwa[aD]at this)
 have HN:=C3t (λ(W:World) (a:Cg W E c m H e)=>U8 a (A0W T i))
 obtain⟨te,X⟩:∃te,te=A0W T i:=⟨_,rfl⟩
 obtain⟨T',aA⟩:∃T',T'=U3 T i:=⟨_,rfl⟩
 have aC:=C3t (λ(W:World) (d:Nat) (a:Am W d T)=>B8c W d T a i)
 rw[<-X,<-aA]at aC
 rw[<-X]at HN
 rw[<-X,<-aA]
 clear h hs aD hT X aA
 go_enter Tryz.func143,Tryz.ntmps143
 go_wp2_with (first
  |(go_at_call 99;refine HT.out.mono ?_;rintro r w1 ⟨d,rfl,J,I⟩;have aJ:=C3t J;have aN:=C3t (U.out.step I);have V:=C3t (I.newS d rfl);have aE:=C3t (I.same (G:=CF c m) (λ_ x=>x.elim));clear J I)
  |(go_at_call 101;refine(aB.out w1 aN.out).mono ?_;rintro r w2 ⟨rfl,J,I⟩;have aO:=C3t J;have aF:=C3t (aE.out.trans I);have aK:=C3t (aJ.out.past U.out V.out I);clear J I aB)
  |(go_at_call 182;refine(aC.out w2 d aK.out).mono ?_;rintro r w3 ⟨rfl,J,I⟩;have aL:=C3t J;have aP:=C3t (U.out.fresh aO.out V.out I);have aG:=C3t (aF.out.freshG V.out I);clear J I)
  |(go_at_call 101;refine(HN.out w3 aP.out).mono ?_;rintro r w4 ⟨rfl,J,I⟩;have aQ:=C3t J;have aH:=C3t (aG.out.trans I);have aM:=C3t (aL.out.past U.out V.out I);clear J I)
  |(go_at_call 103;refine(A5y w4 d T' aM.out).mono ?_;rintro r w5 ⟨z,rr,rfl,J,I,h3⟩;have Z:=C3t J;have HS:=C3t I;have aR:=C3t (aQ.out.step h3);have aI:=C3t (aH.out.over h3);clear J I h3)
  |(go_at_call 98;refine(A7d aR.out 1 (some ⟨z,0,none⟩) 128 128 rr (λ_=>⟨1,rfl,by have:=HM.out;omega,rfl,Z.out.len,Z.out.lt,HS.out.rd⟩)).mono ?_;rintro r w6 ⟨rfl,J,I⟩;have HF:=C3t (And.intro J (aI.out.trans I));clear J I)
  |fail)
 refine bodyPost_end (results_none rfl _ _ _) rfl ⟨rfl,?_,HF.out.2⟩
 have:=HF.out.1
 rw[<-Z.out.mapB]at this
 exact this
end
end
end Go.Proofs.YtbefmjiclpobjaaGreat
