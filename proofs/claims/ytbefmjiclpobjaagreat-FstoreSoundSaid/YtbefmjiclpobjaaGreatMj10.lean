import Derived.Test.YtbefmjiclpobjaaGreatMj00
import Derived.Test.YtbefmjiclpobjaaGreatMj09
import Derived.Deep.RegionWith
import Derived.Laws.Closers25
import Derived.Test.YtbefmjiclpobjaaGreatMj07
import Derived.Deep.WholeRow
import Derived.Deep.MidRow
import Derived.Test.YtbefmjiclpobjaaGreatMj03
import Derived.Laws.IdiomStrings
import Derived.Laws.BytesArg
import Derived.Test.YtbefmjiclpobjaaGreatMj02
namespace Go.Proofs.YtbefmjiclpobjaaGreat
set_option maxHeartbeats 1600000
set_option maxRecDepth 3000
section
open Go.RowKit
theorem C0B(i:Nat):(128:Int)/2^(i%8)=(Y8 i:Int):=by
 have:i%8<8:=by omega
 unfold Y8
 generalize i%8=k at this
 match k,this with
 |0,_|1,_|2,_|3,_|4,_|5,_|6,_|7,_=>rfl
theorem A9A(i:Nat)(hi:i<1024)(w:World):Calls Tryz.prog 138 #[.int .i64 (i:Int)] w λe w'=>e= .returned (.int .u8 (Y8 i:Int))/\w=w':=by
 have I:(0:Int)<=(i:Int):=by omega
 have J:(i:Int)<1024:=by omega
 go_enter Tryz.func138,Tryz.ntmps138
 go_wp2
 go_ret
 exact⟨by rw[<-C0B];rfl,rfl⟩
theorem A4W(i:Nat)(hi:i<1024):IntKind.i64.wrap ((i:Int)/8)=((i/8:Nat):Int):=by
 rw[wrap_i64_ediv _ _ (by omega) (by omega) (by decide)];omega
theorem B6q(i:Nat)(hi:i<1024)(w:World)(n:Nat):Calls Tryz.prog 138 #[.int .i64 (i:Int)] (w.drewN n) λe w'=>e= .returned (.int .u8 (Y8 i:Int))/\∃m,w'=w.drewN m:=by
 refine(A9A i hi _).mono ?_
 rintro e I ⟨rfl,rfl⟩
 exact⟨rfl,n,rfl⟩
def B1i(w:World)(b o:Nat)(r:List Nat):Prop:=∀j,j<128->w.cell? ⟨b,o+j,none⟩=some (.int .u8 (r.getD j 0:Int))/\w.frozen? ⟨b,o+j,none⟩=false
theorem B8m(b o i:Nat)(r:List Nat)(hi:i<1024)(V:∀x∈r,x<256)(w:World)(h:B1i w b o r):
 Calls Tryz.prog 78 #[.pointer (some ⟨b,o,none⟩),.int .i64 (i:Int)] w λe w'=>e= .returned (.bool (A1w r i))/\∃k,w'=w.drewN k:=by
 have h1:(0:Int)<=(i:Int):=by omega
 have h2:(i:Int)<1024:=by omega
 obtain⟨q,J⟩:∃q,q=i/8:=⟨_,rfl⟩
 have X:=A4W i hi
 rw[<-J]at X
 have aA:(q:Int)<128:=by omega
 have aB:(0:Int)<=(q:Int):=by omega
 obtain⟨x,I⟩:∃x,x=r.getD q 0:=⟨_,rfl⟩
 obtain⟨c,Z⟩:=h q (by omega)
 rw[<-I]at c
 have W:=C6x (λn=>B6q i hi w n)
 have Y:x<256:=by rw[I];exact A1J V _
 have U:A1w r i= !decide ((x &&& Y8 i)=0):=by
  unfold A1w
  rw[<-J,<-I]
  by_cases e:x.testBit (7-i%8)=false
  ·rw[e,decide_eq_true ((B44 x i).2 e)];rfl
  ·rw[decide_eq_false (λk=>e ((B44 x i).1 k))];simpa using e
 rw[U]
 clear U h V I J
 go_enter Tryz.func78,Tryz.ntmps78
 go_wp2_with fail
 go_quiet (first
  |(go_at_call 138;exact W.out _)
  |fail)
 go_wp2
 go_ret
 refine⟨?_,_,rfl⟩
 show Ending.returned (.bool (bits BinOp.and IntKind.u8 (x:Int) (Y8 i:Int)!=0))=_
 rw[u8_and_nat x (Y8 i) Y (A6d i)]
 by_cases e:x &&& Y8 i=0
 ·rw[e];rfl
 ·rw[decide_eq_false e]
  have:((x &&& Y8 i:Nat):Int)≠0:=by omega
  rw[bne_iff_ne.2 this];rfl
theorem B8n(b o i:Nat)(r:List Nat)(hi:i<1024)(X:∀x∈r,x<256)(w:World)(h:B1i w b o r):
 Calls Tryz.prog 147 #[.pointer (some ⟨b,o,none⟩),.int .i64 (i:Int)] w λe w'=>e= .returned (.tuple #[])/\∃k,w'=(w.drewN k).setCell ⟨b,o+i/8,none⟩ (.int .u8 ((r.getD (i/8) 0 ||| Y8 i:Nat):Int)):=by
 have h1:(0:Int)<=(i:Int):=by omega
 have h2:(i:Int)<1024:=by omega
 obtain⟨q,W⟩:∃q,q=i/8:=⟨_,rfl⟩
 have aA:=A4W i hi
 rw[<-W]at aA⊢
 have aB:(q:Int)<128:=by omega
 have aC:(0:Int)<=(q:Int):=by omega
 obtain⟨x,J⟩:∃x,x=r.getD q 0:=⟨_,rfl⟩
 obtain⟨c,fz⟩:=h q (by omega)
 rw[<-J]at c⊢
 have Y:x<256:=by rw[J];exact A1J X _
 have I:=λw=>A9A i hi w
 have V:=u8_or_nat x (Y8 i) Y (A6d i)
 obtain⟨m,U⟩:∃m,m=Y8 i:=⟨_,rfl⟩
 rw[<-U]at I V⊢
 obtain⟨y,Z⟩:∃y,y=x ||| m:=⟨_,rfl⟩
 rw[<-Z]at V⊢
 have HB:=C6x I
 clear h X J W U Z I Y
 go_enter Tryz.func147,Tryz.ntmps147
 go_wp2_with fail
 go_region_with (first
  |(go_at_call 138;refine(HB.out _).mono ?_;rintro e w1 ⟨rfl,rfl⟩)
  |fail)
 all_goals go_wp2
 all_goals go_end0
 all_goals exact⟨rfl,1,rfl⟩
theorem A86(b o i:Nat)(r:List Nat)(hi:i<1024)(X:∀x∈r,x<256)(w:World)(h:B1i w b o r):
 Calls Tryz.prog 129 #[.pointer (some ⟨b,o,none⟩),.int .i64 (i:Int)] w λe w'=>e= .returned (.tuple #[])/\∃k,w'=(w.drewN k).setCell ⟨b,o+i/8,none⟩ (.int .u8 ((r.getD (i/8) 0 &&& (255-Y8 i):Nat):Int)):=by
 have h1:(0:Int)<=(i:Int):=by omega
 have h2:(i:Int)<1024:=by omega
 obtain⟨q,W⟩:∃q,q=i/8:=⟨_,rfl⟩
 have aA:=A4W i hi
 rw[<-W]at aA⊢
 have aB:(q:Int)<128:=by omega
 have aC:(0:Int)<=(q:Int):=by omega
 obtain⟨x,J⟩:∃x,x=r.getD q 0:=⟨_,rfl⟩
 obtain⟨c,fz⟩:=h q (by omega)
 rw[<-J]at c⊢
 have Y:x<256:=by rw[J];exact A1J X _
 have I:=λw=>A9A i hi w
 have V:=u8_andNot_nat x (Y8 i) Y (A6d i)
 obtain⟨m,U⟩:∃m,m=Y8 i:=⟨_,rfl⟩
 rw[<-U]at I V⊢
 obtain⟨y,Z⟩:∃y,y=x &&& (255-m):=⟨_,rfl⟩
 rw[<-Z]at V⊢
 have HB:=C6x I
 clear h X J W U Z I Y
 go_enter Tryz.func129,Tryz.ntmps129
 go_wp2_with fail
 go_region_with (first
  |(go_at_call 138;refine(HB.out _).mono ?_;rintro e w1 ⟨rfl,rfl⟩)
  |fail)
 all_goals go_wp2
 all_goals go_end0
 all_goals exact⟨rfl,1,rfl⟩
end
section
open Go.RowKit
def J7(n:Nat)(r:List Nat):Array Value:=(.int .i64 (n:Int)::r.map u8).toArray
def Am(w:World)(d:Nat)(T:List Bool):Prop:=∃r,Rep r T/\1<=T.length/\T.length<=1024/\C3 w d 147 (J7 T.length r)
def J0(d:Nat):Nat->Prop:=λk=>k=d
theorem A87(n:Nat)(r:List Nat)(J:r.length=128)(j:Nat)(I:j<128):(J7 n r)[1+j]? =some (.int .u8 (r.getD j 0:Int)):=by
 unfold J7
 rw[List.getElem?_toArray,show 1+j=j+1 by omega,List.getElem?_cons_succ,List.getElem?_map,List.getD_eq_getElem?_getD,List.getElem?_eq_getElem (by omega)]
 rfl
theorem A6R(n:Nat)(r:List Nat)(j y:Nat):(J7 n r).setIfInBounds (1+j) (.int .u8 (y:Int))=J7 n (r.set j y):=by
 unfold J7
 rw[List.setIfInBounds_toArray,show 1+j=j+1 by omega,List.set_cons_succ,List.map_set]
 rfl
section
variable {w w':World} {d n:Nat} {T:List Bool} {r:List Nat} {f:Nat->Bool}
theorem C3.rowAt(h:C3 w d 147 (J7 n r))(J:r.length=128):B1i w d 1 r:=λj I=>⟨(h.cell _).trans (A87 n r J j I),h.frozen _⟩
theorem C3.homes(h:C3 w d 147 (J7 n r)):w.cell? ⟨d,0,none⟩=some (.int .i64 (n:Int)):=h.cell 0
theorem Am.keep(h:Am w d T)(k:w'.heap[d]? =w.heap[d]?):Am w' d T:=by
 obtain⟨r,I,J,h3,U⟩:=h
 exact⟨r,I,J,h3,U.keep k⟩
theorem Am.lt(h:Am w d T):d<w.heap.size:=by
 obtain⟨r,J,U,h3,I⟩:=h
 exact I.lt
theorem Am.drewN(h:Am w d T)(k:Nat):Am (w.drewN k) d T:=h
theorem Am.far{F F':Nat->Prop}(h:Am w d T)(a:B0 F w F' w')(hF:¬F d):Am w' d T:=h.keep (a.block d h.lt hF)
theorem Am.put(U:Rep r T)(J:1<=T.length)(I:T.length<=1024)(h:C3 w d 147 (J7 T.length r)){i:Nat}(hi:i<T.length)(k:Nat):
 Am ((w.drewN k).setCell ⟨d,1+i/8,none⟩ (.int .u8 ((r.getD (i/8) 0 ||| Y8 i:Nat):Int))) d (T.set i true):=by
 refine⟨B8i r i,U.put hi I,by simpa using J,by simpa using I,?_⟩
 have h3:=(show C3 (w.drewN k) d 147 (J7 T.length r)from h).set_ (1+i/8) (.int .u8 ((r.getD (i/8) 0 ||| Y8 i:Nat):Int))
 rw[A6R]at h3
 rw[List.length_set]
 exact h3
theorem Am.drop(U:Rep r T)(J:1<=T.length)(I:T.length<=1024)(h:C3 w d 147 (J7 T.length r)){i:Nat}(hi:i<T.length)(k:Nat):
 Am ((w.drewN k).setCell ⟨d,1+i/8,none⟩ (.int .u8 ((r.getD (i/8) 0 &&& (255-Y8 i):Nat):Int))) d (T.set i false):=by
 refine⟨A53 r i,U.drop hi I,by simpa using J,by simpa using I,?_⟩
 have h3:=(show C3 (w.drewN k) d 147 (J7 T.length r)from h).set_ (1+i/8) (.int .u8 ((r.getD (i/8) 0 &&& (255-Y8 i):Nat):Int))
 rw[A6R]at h3
 rw[List.length_set]
 exact h3
end
theorem B46(w:World)(d o k:Nat)(u:Value):B0 (J0 d) w (J0 d) ((w.drewN k).setCell ⟨d,o,none⟩ u):=
 (((B0.refl (J0 d) w).drewN k)).setCell (p:=⟨d,o,none⟩) (.inl rfl) u
theorem A4p(w:World)(d:Nat)(T:List Bool)(h:Am w d T):Calls Tryz.prog 137 #[.pointer (some ⟨d,0,none⟩)] w λe w'=>e= .returned (.bool true)/\w=w':=by
 obtain⟨r,_,V,_,I⟩:=h
 have c:=I.homes
 have U:0<T.length:=by omega
 obtain⟨n,J⟩:∃n,n=T.length:=⟨_,rfl⟩
 rw[<-J]at c U
 clear I V J
 go_enter Tryz.func137,Tryz.ntmps137
 go_wp2
 go_ret
 exact⟨rfl,rfl⟩
theorem A9B(w:World)(d:Nat)(T:List Bool)(h:Am w d T)(i:Int):Calls Tryz.prog 77 #[.pointer (some ⟨d,0,none⟩),.int .i64 i] w λe w'=>e= .returned (.bool (decide (U0 T i)))/\w=w':=by
 have U:=C6x (A4p w d T h)
 obtain⟨r,_,X,_,V⟩:=h
 have c:=V.homes
 obtain⟨B,I⟩:∃B,B=decide (U0 T i):=⟨_,rfl⟩
 rw[<-I]
 clear V X
 by_cases hi:i<0
 ·obtain rfl:B=false:=by rw[I];exact decide_eq_false (by unfold U0;omega)
  clear I
  generalize T.length=n at c
  go_enter Tryz.func77,Tryz.ntmps77
  go_wp2_with (first
   |(go_at_call 137;refine U.out.mono ?_;rintro e W ⟨rfl,rfl⟩)
   |fail)
  go_ret
  exact⟨rfl,rfl⟩
 ·replace hi:0<=i:=by omega
  by_cases J:i<(T.length:Int)
  ·obtain rfl:B=true:=by rw[I];exact decide_eq_true ⟨by omega,J⟩
   clear I
   generalize T.length=n at c J
   go_enter Tryz.func77,Tryz.ntmps77
   go_wp2_with (first
    |(go_at_call 137;refine U.out.mono ?_;rintro e W ⟨rfl,rfl⟩)
    |fail)
   go_ret
   exact⟨rfl,rfl⟩
  ·obtain rfl:B=false:=by rw[I];exact decide_eq_false (by unfold U0;omega)
   clear I
   generalize T.length=n at c J
   go_enter Tryz.func77,Tryz.ntmps77
   go_wp2_with (first
    |(go_at_call 137;refine U.out.mono ?_;rintro e W ⟨rfl,rfl⟩)
    |fail)
   go_ret
   exact⟨by show Ending.returned (.bool (decide (i<(n:Int))))=_;rw[decide_eq_false (Int.not_lt.2 J)],rfl⟩
theorem A6S{T:List Bool}{i:Int}(h:¬U0 T i):A7Z T i=false/\A6P T i=2/\A6Q T i=T/\A1T T i=2/\Z5 T i=T:=by
 unfold A7Z A6P A6Q A1T Z5
 rw[decide_eq_false h,if_neg h,if_neg h,if_neg h,if_neg h]
 exact⟨rfl,rfl,rfl,rfl,rfl⟩
theorem C0C{T:List Bool}{k:Nat}(h:k<T.length):U0 T (k:Int):=⟨by omega,by omega⟩
theorem A6T{T:List Bool}{k:Nat}(h:k<T.length):A7Z T (k:Int)=T.getD k false/\A6P T (k:Int)=(if T.getD k false then 10 else 0)/\A6Q T (k:Int)=T.set k true/\A1T T (k:Int)=(if T.getD k false then 0 else 11)/\Z5 T (k:Int)=T.set k false:=by
 have I:=C0C h
 unfold A7Z A6P A6Q A1T Z5
 rw[decide_eq_true I,if_pos I,if_pos I,if_pos I,if_pos I]
 exact⟨by simp,rfl,rfl,rfl,rfl⟩
theorem A6U{T:List Bool}{i:Int}(h:U0 T i):∃k:Nat,i=(k:Int)/\k<T.length:=by
 unfold U0 at h
 exact⟨i.toNat,by omega,by omega⟩
theorem A6e(w:World)(d:Nat)(T:List Bool)(h:Am w d T)(k:Nat)(V:k<T.length):Calls Tryz.prog 78 #[.pointer (some ⟨d,1,none⟩),.int .i64 (k:Int)] w λe w'=>e= .returned (.bool (T.getD k false))/\∃m,w'=w.drewN m:=by
 obtain⟨r,I,W,J,U⟩:=h
 rw[<-I.has V J]
 exact B8m d 1 k r (by omega) I.lt w (U.rowAt I.len)
theorem B47(w:World)(d:Nat)(T:List Bool)(h:Am w d T)(k:Nat)(W:k<T.length):Calls Tryz.prog 147 #[.pointer (some ⟨d,1,none⟩),.int .i64 (k:Int)] w λe w'=>e= .returned (.tuple #[])/\Am w' d (T.set k true)/\B0 (J0 d) w (J0 d) w':=by
 obtain⟨r,I,U,V,J⟩:=h
 refine(B8n d 1 k r (by omega) I.lt w (J.rowAt I.len)).mono ?_
 rintro e w' ⟨rfl,n,rfl⟩
 exact⟨rfl,Am.put I U V J W n,B46 _ _ _ _ _⟩
theorem B8o(w:World)(d:Nat)(T:List Bool)(h:Am w d T)(k:Nat)(W:k<T.length):Calls Tryz.prog 129 #[.pointer (some ⟨d,1,none⟩),.int .i64 (k:Int)] w λe w'=>e= .returned (.tuple #[])/\Am w' d (T.set k false)/\B0 (J0 d) w (J0 d) w':=by
 obtain⟨r,I,U,V,J⟩:=h
 refine(A86 d 1 k r (by omega) I.lt w (J.rowAt I.len)).mono ?_
 rintro e w' ⟨rfl,n,rfl⟩
 exact⟨rfl,Am.drop I U V J W n,B46 _ _ _ _ _⟩
theorem C2F(w:World)(d:Nat)(T:List Bool)(h:Am w d T)(i:Int):Calls Tryz.prog 29 #[.pointer (some ⟨d,0,none⟩),.int .i64 i] w λe w'=>e= .returned (.bool (A7Z T i))/\∃m,w'=w.drewN m:=by
 have J:=C6x (A9B w d T h i)
 by_cases I:U0 T i
 ·obtain⟨k,rfl,U⟩:=A6U I
  have V:=C6x (λn=>(A6e (w.drewN n) d T (h.drewN n) k U))
  rw[(A6T U).1]
  rw[decide_eq_true I]at J
  generalize T.getD k false=c at V⊢
  clear h U I
  go_enter Tryz.func29,Tryz.ntmps29
  go_wp2_with (first
   |(go_at_call 77;refine J.out.mono ?_;rintro e W ⟨rfl,rfl⟩)
   |(go_at_call 78;refine(V.out 0).mono ?_;rintro e W ⟨rfl,n,rfl⟩)
   |fail)
  go_ret
  exact⟨rfl,n,rfl⟩
 ·rw[(A6S I).1]
  rw[decide_eq_false I]at J
  clear h I
  go_enter Tryz.func29,Tryz.ntmps29
  go_wp2_with (first
   |(go_at_call 77;refine J.out.mono ?_;rintro e W ⟨rfl,rfl⟩)
   |fail)
  go_ret
  exact⟨rfl,0,rfl⟩
theorem C0D(w:World)(d:Nat)(T:List Bool)(h:Am w d T)(i:Int):Calls Tryz.prog 102 #[.pointer (some ⟨d,0,none⟩),.int .i64 i] w λe w'=>e= .returned (.int .i64 (A6P T i))/\Am w' d (A6Q T i)/\B0 (J0 d) w (J0 d) w':=by
 have Y:=C6x (A4p w d T h)
 have U:=C6x (A9B w d T h i)
 have HA:=C6x h
 by_cases J:U0 T i
 ·obtain⟨k,rfl,X⟩:=A6U J
  have Z:=C6x (A6e w d T h k X)
  have HP:=C6x (λn=>(B47 (w.drewN n) d T (h.drewN n) k X))
  obtain⟨_,V,W,e3,e4⟩:=A6T X
  rw[V,W]
  rw[decide_eq_true J]at U
  have HT:=C6x (λ(b:Bool) (e:T.getD k false=b)=>B1e e X)
  generalize hc:T.getD k false=c at Z HT⊢
  clear V W e3 e4 X J h hc
  cases c
  ·go_enter Tryz.func102,Tryz.ntmps102
   go_wp2_with (first
    |(go_at_call 137;refine Y.out.mono ?_;rintro e I ⟨rfl,rfl⟩)
    |(go_at_call 77;refine U.out.mono ?_;rintro e I ⟨rfl,rfl⟩)
    |(go_at_call 78;refine Z.out.mono ?_;rintro e I ⟨rfl,n,rfl⟩)
    |(go_at_call 147;refine(HP.out n).mono ?_;rintro e I ⟨rfl,a1,a2⟩)
    |fail)
   go_ret
   exact⟨rfl,a1,B0.of_drewN a2⟩
  ·go_enter Tryz.func102,Tryz.ntmps102
   go_wp2_with (first
    |(go_at_call 137;refine Y.out.mono ?_;rintro e I ⟨rfl,rfl⟩)
    |(go_at_call 77;refine U.out.mono ?_;rintro e I ⟨rfl,rfl⟩)
    |(go_at_call 78;refine Z.out.mono ?_;rintro e I ⟨rfl,n,rfl⟩)
    |fail)
   go_ret
   refine⟨rfl,?_,(B0.refl _ _).drewN _⟩
   rw[HT.out _ rfl]
   exact HA.out.drewN _
 ·obtain⟨_,V,W,e3,e4⟩:=A6S J
  rw[V,W]
  rw[decide_eq_false J]at U
  clear h J V W e3 e4
  go_enter Tryz.func102,Tryz.ntmps102
  go_wp2_with (first
   |(go_at_call 137;refine Y.out.mono ?_;rintro e I ⟨rfl,rfl⟩)
   |(go_at_call 77;refine U.out.mono ?_;rintro e I ⟨rfl,rfl⟩)
   |fail)
  go_ret
  exact⟨rfl,HA.out,(B0.refl _ _)⟩
theorem C0E(w:World)(d:Nat)(T:List Bool)(h:Am w d T)(i:Int):Calls Tryz.prog 182 #[.pointer (some ⟨d,0,none⟩),.int .i64 i] w λe w'=>e= .returned (.int .i64 (A1T T i))/\Am w' d (Z5 T i)/\B0 (J0 d) w (J0 d) w':=by
 have Y:=C6x (A4p w d T h)
 have U:=C6x (A9B w d T h i)
 have HA:=C6x h
 by_cases J:U0 T i
 ·obtain⟨k,rfl,X⟩:=A6U J
  have Z:=C6x (A6e w d T h k X)
  have HP:=C6x (λn=>(B8o (w.drewN n) d T (h.drewN n) k X))
  obtain⟨_,e1,e2,V,W⟩:=A6T X
  rw[V,W]
  rw[decide_eq_true J]at U
  have HT:=C6x (λ(b:Bool) (e:T.getD k false=b)=>B1e e X)
  generalize hc:T.getD k false=c at Z HT⊢
  clear e1 e2 V W X J h hc
  cases c
  ·go_enter Tryz.func182,Tryz.ntmps182
   go_wp2_with (first
    |(go_at_call 137;refine Y.out.mono ?_;rintro e I ⟨rfl,rfl⟩)
    |(go_at_call 77;refine U.out.mono ?_;rintro e I ⟨rfl,rfl⟩)
    |(go_at_call 78;refine Z.out.mono ?_;rintro e I ⟨rfl,n,rfl⟩)
    |fail)
   go_ret
   refine⟨rfl,?_,(B0.refl _ _).drewN _⟩
   rw[HT.out _ rfl]
   exact HA.out.drewN _
  ·go_enter Tryz.func182,Tryz.ntmps182
   go_wp2_with (first
    |(go_at_call 137;refine Y.out.mono ?_;rintro e I ⟨rfl,rfl⟩)
    |(go_at_call 77;refine U.out.mono ?_;rintro e I ⟨rfl,rfl⟩)
    |(go_at_call 78;refine Z.out.mono ?_;rintro e I ⟨rfl,n,rfl⟩)
    |(go_at_call 129;refine(HP.out n).mono ?_;rintro e I ⟨rfl,a1,a2⟩)
    |fail)
   go_ret
   exact⟨rfl,a1,B0.of_drewN a2⟩
 ·obtain⟨_,e1,e2,V,W⟩:=A6S J
  rw[V,W]
  rw[decide_eq_false J]at U
  clear h J e1 e2 V W
  go_enter Tryz.func182,Tryz.ntmps182
  go_wp2_with (first
   |(go_at_call 137;refine Y.out.mono ?_;rintro e I ⟨rfl,rfl⟩)
   |(go_at_call 77;refine U.out.mono ?_;rintro e I ⟨rfl,rfl⟩)
   |fail)
  go_ret
  exact⟨rfl,HA.out,(B0.refl _ _)⟩
end
section
open Go.RowKit
def C5l(w:World)(T:List Bool)(n:Nat)(t12:Value)(wr:World):Prop:=
 ∃k:Nat,t12= .int .i64 (k:Int)/\k<=n/\(∀j,j<k->T.getD j false=true)/\∃j,wr=w.drewN j
theorem B3g{T:List Bool}{k:Nat}(I:k<T.length)(h:T.getD k false=false)(J:∀j,j<k->T.getD j false=true):Y9 T=T.set k true/\Y0 T=(k:Int)/\Y1 T=0:=by
 unfold Y9 Y0 Y1
 rw[B8k I h J,if_pos I,if_pos I]
 exact⟨rfl,rfl,rfl⟩
theorem B6r{T:List Bool}(h:∀j,j<T.length->T.getD j false=true):Y9 T=T/\Y0 T= -1/\Y1 T=8:=by
 refine⟨B8l (A39 h),?_,?_⟩
 ·unfold Y0;rw[A39 h,if_neg (by omega)]
 ·unfold Y1;rw[A39 h,if_neg (by omega)]
theorem C0F(w:World)(d:Nat)(T:List Bool)(h:Am w d T):Calls Tryz.prog 183 #[.pointer (some ⟨d,0,none⟩)] w λe w'=>e= .returned (.tuple #[.int .i64 (Y0 T),.int .i64 (Y1 T)])/\Am w' d (Y9 T)/\B0 (J0 d) w (J0 d) w':=by
 have HD:=C6x (A4p w d T h)
 have HR:=C6x (λn k W=>A6e (w.drewN n) d T (h.drewN n) k W)
 have HP:=C6x (λn k W=>B47 (w.drewN n) d T (h.drewN n) k W)
 have HA:=C6x h
 have c0:w.cell? ⟨d,0,none⟩=some (.int .i64 (T.length:Int)):=by
  obtain⟨r,_,_,_,I⟩:=h
  exact I.homes
 have aA:T.length<=1024:=by
  obtain⟨r,_,_,h2,_⟩:=h
  exact h2
 obtain⟨n,hn⟩:∃n,n=T.length:=⟨_,rfl⟩
 rw[<-hn]at HR HP c0 aA
 have aD:(n:Int)<=1024:=by omega
 have HN:=C6x hn
 clear h hn aA
 go_enter Tryz.func183,Tryz.ntmps183
 go_wp2_with (first
  |(go_at_call 137;refine HD.out.mono ?_;rintro e w1 ⟨rfl,rfl⟩)
  |fail)
 go_loopw [12] (C5l w T n) (λt _=>n-(intOf t).toNat)
 case atStart=>exact⟨0,rfl,Nat.zero_le _,λj hj=>absurd hj (by omega),0,rfl⟩
 case round=>
  obtain⟨k,rfl,W,he,j,rfl⟩:=hrel
  have X:=C6x he
  clear he
  by_cases Z:k<n
  ·have aC:(k:Int)<(n:Int):=by omega
   have Y:=C6x (HR.out j k Z)
   have aB:=C6x (λm=>HP.out m k Z)
   obtain⟨b,I⟩:∃b,b=T.getD k false:=⟨_,rfl⟩
   rw[<-I]at Y
   have HB:=C6x I
   clear I
   cases b
   ·go_wp2_with (first
     |(go_at_call 78;refine Y.out.mono ?_;rintro e w1 ⟨rfl,m,rfl⟩)
     |(go_at_call 147;refine(aB.out _).mono ?_;rintro e w1 ⟨rfl,a1,a2⟩)
     |fail)
    go_ret2
    obtain⟨J,U,V⟩:=B3g (by rw[<-HN.out];exact Z) HB.out.symm X.out
    rw[J,U,V]
    exact⟨rfl,a1,B0.of_drewN a2⟩
   ·go_wp2_with (first
     |(go_at_call 78;refine Y.out.mono ?_;rintro e w1 ⟨rfl,m,rfl⟩)
     |fail)
    refine⟨⟨k+1,by simp,by omega,λi hi=>?_,_,rfl⟩,by simp[intOf];omega⟩
    rcases Nat.lt_or_ge i k with h1|h1
    ·exact X.out i h1
    ·obtain rfl:i=k:=by omega
     exact HB.out.symm
  ·obtain rfl:k=n:=by omega
   obtain⟨J,U,V⟩:=B6r (T:=T) (by rw[<-HN.out];exact X.out)
   have E1:=C6x J
   have E2:=C6x U
   have E3:=C6x V
   clear J U V
   go_wp2
   go_ret2
   rw[E1.out,E2.out,E3.out]
   exact⟨rfl,HA.out,(B0.refl _ _).drewN _⟩
end
section
open Go.RowKit
def zR:Array Value:=((List.replicate 128 0).map u8).toArray
theorem B48:(Tryz.prog.info? 145).map (λi=>(i.zero,i.size,i.bytes))=some (some (.agg zR),128,128):=by kernel_rfl
theorem A0x:(Tryz.prog.info? 145).map (·.size)=some 128:=by kernel_rfl
theorem B1j{n:Nat}{r:List Nat}(h:r.length=128):(J7 n r).size=129:=by simp[J7,h]
theorem A6f(l:List Nat):((l.map u8).toArray).all (·.oneCell')=true:=all_oneCell_toArray (T5 l)
section
variable {ops:Array Oper} {rest:List Oper} {o:Oper} {a:Act} {w:World} {Q:Exit->Act->World->Prop}
theorem A4X{t:TypeId}{C:Array Value}{s b:Nat}(J:o.guard=none)(U:o.op= .alloc t)(I:(Tryz.prog.info? t).map (λi=>(i.zero,i.size,i.bytes))=some (some (.agg C),s,b))
 (h:wpList Tryz.prog ops Q rest (a.put o.dst (.pointer (some ⟨w.heap.size,0,none⟩))) (w.alloc (.cells C t))):wpList Tryz.prog ops Q (o::rest) a w:=by
 refine wpList_plain J λK hK=>?_
 obtain⟨i,hi,I,_⟩:=info_parts I
 have V:(zeroValue t).run Tryz.prog w= .ok (.agg C) w:=by simp[zeroValue,typeInfo,hi,I]
 unfold Oper.wp execOp
 simp[U,Instr.alloc,V,newVar,newRow,Value.cells,Result.andThen]
 exact hK _ _ h
theorem A3m{t:TypeId}{C D:Array Value}{s:Nat}(W:o.guard=none)(x y:Operand)(X:o.op= .store t x y)(g:Nat)(V:g=w.heap.size)(Z:a.eval x= .pointer (some ⟨g,0,none⟩))(hy:a.eval y= .agg D)
 (Y:(Tryz.prog.info? t).map (·.size)=some s) (I:D.size=s) (U:C.size=s) (J:D.all (·.oneCell')=true)
 (h:wpList Tryz.prog ops Q rest (a.put o.dst undef) (w.alloc (.cells D t))):wpList Tryz.prog ops Q (o::rest) a (w.alloc (.cells C t)):=by
 subst V
 refine wpList_store_row W t x y X w.heap.size D Z hy t C (Go.heap_alloc_new w _) (by rw[Y,I]) (by rw[U,I]) J ?_
 rw[World.setRow_alloc_new]
 exact h
theorem A88(n:Nat):Tryz.prog.built 147 [(0,.int .i64 (n:Int))]=some (J7 n (List.replicate 128 0)):=by kernel_rfl
theorem A8a(I:o.guard=none)(x:Operand)(J:o.op= .build 147 #[(0,x)])(n:Nat)(U:a.eval x= .int .i64 (n:Int))
 (h:wpList Tryz.prog ops Q rest (a.put o.dst (.agg (J7 n (List.replicate 128 0)))) w):wpList Tryz.prog ops Q (o::rest) a w:=by
 have e:((#[(0,x)]:Array (Nat×Operand)).map λ(i,x)=>(i,a.eval x)).toList=[(0,.int .i64 (n:Int))]:=by simp[U]
 refine wpList_build I 147 _ J (by rw[e,A88 n];rfl) ?_
 rw[e,A88 n]
 exact h
end
theorem B49(n:Nat)(X:1<=n)(Y:n<=1024)(w:World):Calls Tryz.prog 68 #[.int .i64 (n:Int)] w λe w'=>∃d,e= .returned (.tuple #[.pointer (some ⟨d,0,none⟩),.int .i64 0])/\Am w' d (List.replicate n false)/\B0 B5 w (J0 d) w':=by
 have Z:(1:Int)<=(n:Int):=by omega
 have aA:(n:Int)<=1024:=by omega
 have U:=C6x (show∀w:World,Am (w.alloc (.cells (J7 n (List.replicate 128 0)) 147)) w.heap.size (List.replicate n false)fromλw=>
  ⟨_,Rep.zero n,by simpa using X,by simpa using Y,by rw[List.length_replicate];exact C3.new _ _ _⟩)
 have V:=C6x (show∀(w:World) (o:Obj),B0 B5 w (J0 w.heap.size) (w.alloc o)fromλw o=>⟨rfl,rfl,rfl,by simp,λk J _=>Below.heap_alloc _ _ _ J,λk J=>.inr (by rw[show k=w.heap.size from J];exact Nat.le_refl _)⟩)
 obtain⟨C,I⟩:∃C,C=J7 n (List.replicate 128 0):=⟨_,rfl⟩
 have W:=C6x I
 rw[<-I]at U
 clear I
 go_enter Tryz.func68,Tryz.ntmps68
 go_wp2_with (first
  |(refine A8a rfl (.tmp 10) rfl n rfl ?_;rw[<-W.out])
  |fail)
 go_ret2
 exact⟨_,rfl,U.out _,V.out _ _⟩
theorem C2G(n:Int)(h:n<1\/1024<n)(w:World):Calls Tryz.prog 68 #[.int .i64 n] w λe w'=>e= .returned (.tuple #[.pointer none,.int .i64 2])/\w=w':=by
 by_cases I:n<1
 ·clear h
  go_enter Tryz.func68,Tryz.ntmps68
  go_wp2
  go_ret2
  exact⟨rfl,rfl⟩
 ·have J:1024<n:=by omega
  have h3:1<=n:=by omega
  clear h I
  go_enter Tryz.func68,Tryz.ntmps68
  go_wp2
  go_ret2
  exact⟨rfl,rfl⟩
end
section
open Go.RowKit
theorem B8p(w:World)(o:Obj):B0 B5 w (J0 w.heap.size) (w.alloc o):=⟨rfl,rfl,rfl,by simp,λk I _=>Below.heap_alloc _ _ _ I,λk I=>.inr (by rw[show k=w.heap.size from I];exact Nat.le_refl _)⟩
theorem C3.range{w:World}{z:Nat}{t:TypeId}{C:Array Value}(h:C3 w z t C):w.rangeAt z 0 C.toList:=λj v hv=>by
 rw[Nat.zero_add,h.cell]
 simpa using hv
theorem C3.rangeRow{w:World}{z n:Nat}{r:List Nat}(h:C3 w z 147 (J7 n r)):w.rangeAt z 1 (r.map u8):=λj v hv=>by
 rw[h.cell]
 unfold J7
 rw[List.getElem?_toArray,show 1+j=j+1 by omega,List.getElem?_cons_succ]
 exact hv
theorem A6V(w:World)(d:Nat)(T:List Bool)(h:Am w d T):Calls Tryz.prog 103 #[.pointer (some ⟨d,0,none⟩)] w λe w'=>∃z r,e= .returned (.slice (some ⟨z,0,none⟩) 128 128)/\Rep r T/\Sl w' (J0 z) 145 1 (.slice (some ⟨z,0,none⟩) 128 128) 128 (r.map u8)/\B0 B5 w (J0 z) w':=by
 have HD:=C6x (A4p w d T h)
 obtain⟨r,I,h1,h2,hb⟩:=h
 have Y:=C6x hb.rangeRow
 have HS:=C6x (show((r.map u8).toArray).size=128 by simpa using I.len)
 have X:=C6x (A6f r)
 have V:=C6x (show∀w:World,Sl (w.alloc (.cells (r.map u8).toArray 145)) (J0 w.heap.size) 145 1 (.slice (some ⟨w.heap.size,0,none⟩) 128 128) 128 (r.map u8)fromλw=>(C3.new w 145 (r.map u8).toArray).sl8 I.len)
 have aA:=C6x (show∀(w:World) (o:Obj),B0 B5 w (J0 w.heap.size) (w.alloc o)fromλw o=>B8p w o)
 have aC:=C6x I
 obtain⟨C,U⟩:∃C,C=(r.map u8).toArray:=⟨_,rfl⟩
 obtain⟨L,J⟩:∃L,L=r.map u8:=⟨_,rfl⟩
 have HL:=C6x (show L.toArray=C by rw[U,J])
 have aB:=C6x (show L.length=128 by rw[J];simpa using I.len)
 rw[<-J]at Y
 rw[<-U]at V HS X
 obtain⟨Z,hZ⟩:∃Z,Z=zR:=⟨_,rfl⟩
 have HZ:=C6x (show Z.size=128 by rw[hZ];simp[zR])
 have W:=C6x B48
 rw[<-hZ]at W
 clear U I h1 h2 hb hZ J
 go_enter Tryz.func103,Tryz.ntmps103
 go_wp2_with (first
  |(go_at_call 137;refine HD.out.mono ?_;rintro e w1 ⟨rfl,rfl⟩)
  |(refine wpList_load_mid rfl 145 (.tmp 9) rfl d 1 rfl L _ Y.out Tryz.underlying145 rfl (by rw[A0x,aB.out]) ?_;rw[HL.out])
  |(refine A4X rfl rfl W.out ?_)
  |(refine A3m rfl (.tmp 3) (.tmp 10) rfl _ rfl rfl rfl A0x HS.out HZ.out X.out ?_)
  |fail)
 go_ret
 exact⟨_,r,rfl,aC.out,V.out _,aA.out _ _⟩
def B8q(w:World)(z:Nat)(f:Nat->Bool)(n:Nat)(t13:Value)(wr:World):Prop:=
 ∃(k:Nat) (r:List Nat),t13= .int .i64 (k:Int)/\k<=n/\Bt r (λj=>decide (k<=j)&&f j)/\C3 wr (z+1) 145 (r.map u8).toArray/\C3 wr z 145 zR/\B0 B5 w (λk=>k=z\/k=z+1) wr/\z=w.heap.size
theorem C3.rowAt0{w:World}{z:Nat}{r:List Nat}(h:C3 w z 145 (r.map u8).toArray)(J:r.length=128):B1i w z 0 r:=λj I=>⟨by
 rw[h.cell,List.getElem?_toArray,Nat.zero_add,List.getElem?_map,List.getD_eq_getElem?_getD,List.getElem?_eq_getElem (by omega)]
 rfl,h.frozen _⟩
theorem B8r(r:List Nat)(j y:Nat):((r.map u8).toArray).setIfInBounds (0+j) (.int .u8 (y:Int))=((r.set j y).map u8).toArray:=by
 rw[List.setIfInBounds_toArray,List.map_set,Nat.zero_add]
 rfl
theorem B8q.next{w wr:World}{z n k:Nat}{f:Nat->Bool}{r:List Nat}(X:k<n)(Y:n<=1024)(W:Bt r (λj=>decide (k<=j)&&f j))(U:C3 wr (z+1) 145 (r.map u8).toArray)(J:C3 wr z 145 zR)
 (V:B0 B5 w (λk=>k=z\/k=z+1) wr) (I:z=w.heap.size) (m:Nat) (v:Int) (hv:v=((k+1:Nat):Int)):
 B8q w z f n (.int .i64 v) ((wr.drewN m).setCell ⟨z+1,k/8,none⟩ (.int .u8 ((r.getD (k/8) 0 &&& (255-Y8 k):Nat):Int))):=by
 rw[<-Nat.zero_add (k/8)]
 rw[show r.getD (0+k/8) 0=r.getD (k/8) 0 by rw[Nat.zero_add]]
 refine⟨k+1,A53 r k,by rw[hv],by omega,(W.drop (by omega)).congr λj _=>?_,?_,?_,?_,I⟩
 ·by_cases e:j=k
  ·subst e
   rw[decide_eq_true rfl,decide_eq_false (show¬j+1<=j by omega)];rfl
  ·by_cases h:k<=j
   ·simp[h,e,show k+1<=j by omega]
   ·simp[h,show¬k+1<=j by omega]
 ·have h3:=(show C3 (wr.drewN m) (z+1) 145 (r.map u8).toArray from U).set_ (0+k/8) (.int .u8 ((r.getD (k/8) 0 &&& (255-Y8 k):Nat):Int))
  rw[B8r]at h3
  exact h3
 ·exact(show C3 (wr.drewN m) z 145 zR from J).far (p:=⟨z+1,0+k/8,none⟩) (by simp) _
 ·exact(V.drewN m).setCell (p:=⟨z+1,0+k/8,none⟩) (.inr (by rw[I];simp)) _
theorem A1x{J:Func}{p:Tmp}{ty:TypeId}(h:J.results= #[.cell p ty])(I:Array Value)(P:Program)(w:World){b o:Nat}{cs:List Value}{d:TypeDesc}(W:I.getD p undef= .pointer (some ⟨b,o,none⟩))(U:w.rangeAt b o cs)
 (Y:P.underlying ty=some d) (V:d.isRow=true) (hi:(P.info? ty).map (·.size)=some cs.length):(results J I).run P w= .ok (.agg cs.toArray) w:=by
 have X:I[p]?.getD undef= .pointer (some ⟨b,o,none⟩):=by simpa using W
 simp only[results,h]
 simp[X,asAddr,run_loadVar_mid w b o ty cs d U Y V hi]
theorem B6s(w:World)(d n:Nat)(f:Nat->Bool)(r:List Nat)(X:Bt r f)(hn:n<=1024)(hb:C3 w d 147 (J7 n r)):
 Calls Tryz.prog 69 #[.pointer (some ⟨d,0,none⟩)] w λe w'=>∃I,e= .returned (.agg (I.map u8).toArray)/\Bt I (λj=>decide (n<=j)&&f j)/\B0 B5 w B5 w':=by
 obtain⟨z,Y⟩:∃z,z=w.heap.size:=⟨_,rfl⟩
 have HB:=C6x hb
 have HR:=C6x (λo=>((show C3 (w.alloc o) d 147 (J7 n r)from hb.alloc o)).rangeRow)
 have HH:=C6x (λo o'=>(((show C3 ((w.alloc o).alloc o') d 147 (J7 n r)from(hb.alloc o).alloc o')).homes))
 have HS:=C6x (show((r.map u8).toArray).size=128 by simpa using X.len)
 have HO:=C6x (A6f r)
 have aJ:=C6x (show(r.map u8).length=128 by simpa using X.len)
 have aT:(n:Int)<=1024:=by omega
 have aS:(0:Int)<=(n:Int):=by omega
 have HN:=C6x hn
 have HT:=C6x (λ(k:Nat) (I:List Nat) (g:Nat->Bool) (W:k<n) (V:Bt I g) (wr:World) (J:C3 wr (z+1) 145 (I.map u8).toArray)=>A86 (z+1) 0 k I (by omega) V.lt wr (J.rowAt0 V.len))
 have aP:=C6x X
 have aF:=C6x (show B8q w z f n (.int .i64 0) ((w.alloc (.cells zR 145)).alloc (.cells (r.map u8).toArray 145))from
  ⟨0,r,rfl,Nat.zero_le _,X.congr (λ_ _=>by simp),by rw[Y];have:=C3.new (w.alloc (.cells zR 145)) 145 (r.map u8).toArray;simpa using this,by rw[Y];exact(C3.new w 145 zR).alloc _,
   ⟨rfl,rfl,rfl,by simp;omega,λk W _=>by rw[Below.heap_alloc _ _ _ (by simp;omega),Below.heap_alloc _ _ _ W],λk W=>.inr (by rcases W with h|h<;>omega)⟩,Y⟩)
 obtain⟨Z,hZ⟩:∃Z,Z=zR:=⟨_,rfl⟩
 have HZ:=C6x (show Z.size=128 by rw[hZ];simp[zR])
 have HI:=C6x B48
 have aQ:=C6x hZ
 rw[<-hZ]at HI aF
 have aC:=C6x Y
 clear X hn hb hZ Y
 go_enter Tryz.func69,Tryz.ntmps69
 go_wp2_with (first
  |(refine wpList_load_mid rfl 145 (.tmp 7) rfl d 1 rfl (r.map u8) _ (HR.out _) Tryz.underlying145 rfl (by rw[A0x,aJ.out]) ?_)
  |(refine A4X rfl rfl HI.out ?_)
  |(refine A3m rfl (.tmp 3) (.tmp 8) rfl _ rfl rfl rfl A0x HS.out HZ.out HO.out ?_;have h0:=HH.out (.cells Z 145) (.cells (r.map u8).toArray 145))
  |fail)
 rw[<-aC.out]
 go_loopw [13] (B8q w z f n) (λt _=>n-(intOf t).toNat)
 case atStart=>exact aF.out
 case round=>
  obtain⟨k,I,rfl,W,V,aH,aG,ha,aO⟩:=hrel
  have U:=C6x V
  have aB:=C6x aH
  have aA:=C6x aG
  have HA:=C6x ha
  clear V aH aG ha aO
  by_cases aI:k<n
  ·have aR:(k:Int)<(n:Int):=by omega
   go_wp2_with (first
    |(go_at_call 129;refine(HT.out k I _ aI U.out _ aB.out).mono ?_;rintro e w1 ⟨rfl,m,rfl⟩)
    |fail)
   exact⟨B8q.next aI HN.out U.out aB.out aA.out HA.out aC.out m _ (by simp),by simp[intOf];omega⟩
  ·obtain rfl:k=n:=by omega
   have aD:=C6x (show(I.map u8).length=128 by simpa using U.out.len)
   have aE:=C6x (show((I.map u8).toArray).size=128 by simpa using U.out.len)
   have aL:=C6x (show wr.rangeAt (z+1) 0 (I.map u8)by have:=aB.out.range;simpa using this)
   have aK:=C6x (A6f I)
   have aM:=C6x (show zR.size=128 by simp[zR])
   go_wp2_with (first
    |(refine wpList_load_mid rfl 145 (.tmp 3) rfl (z+1) 0 rfl (I.map u8) _ aL.out Tryz.underlying145 rfl (by rw[A0x,aD.out]) ?_)
    |(refine wpList_store_row rfl 145 (.tmp 2) (.tmp 19) rfl z (I.map u8).toArray rfl rfl 145 zR aA.out (by rw[A0x,aE.out]) (by rw[aM.out,aE.out]) aK.out ?_)
    |fail)
   have aN:C3 (wr.setRow z (I.map u8).toArray) z 145 (I.map u8).toArray:=setRow_heap _ _ _ _ _ _ aA.out
   refine bodyPost_ret (A1x Tryz.results69 _ _ _ (b:=z) (o:=0) (cs:=I.map u8) rfl (by have:=aN.range;simpa using this) Tryz.underlying145 rfl (by rw[A0x,aD.out])) rfl ⟨I,rfl,U.out,?_⟩
   have J:=HA.out
   have h2:=aC.out
   exact⟨J.os,J.tape,J.output,by simpa using J.size,λj hj hn=>(setRow_other _ _ _ _ (by omega)).trans (J.block j hj hn),λj hj=>hj.elim⟩
end
section
open Go.RowKit
end
section
open Go.RowKit
def B3h(q V p:Nat):UInt8:=UInt8.ofNat (C4 q V p 8)
def A1K(q V p n:Nat):List UInt8:=(List.range n).map λi=>B3h q V (p+8 * i)
theorem A0D(q V p n:Nat):(A1K q V p n).length=n:=by simp[A1K]
theorem RSt.alloc{w:World}{F:Nat->Prop}{b q V a:Nat}(h:RSt w F b q V a)(U:Bd F w)(o:Obj):RSt (w.alloc o) F b q V a:=by
 obtain⟨v,W,I⟩:=h.ex
 exact⟨⟨v,W.alloc _,J2 I.own (λk J=>Below.heap_alloc _ _ _ (U k (I.inF k J))),I.inF,λk J=>by have:=U k J;simp;omega⟩,h.inF,h.le,h.sm⟩
theorem RSt.setCell{w:World}{F:Nat->Prop}{b q V a:Nat}(h:RSt w F b q V a)(X:Bd F w){p:Addr}(U:¬F p.block)(u:Value):RSt (w.setCell p u) F b q V a:=by
 obtain⟨v,W,I⟩:=h.ex
 exact⟨⟨v,W.far (λe=>U (by rw[<-e];exact h.inF)) _,J2 I.own (λk J=>Below.heap_setCell _ _ _ _ (λe=>U (by rw[<-e];exact I.inF k J))),I.inF,λk J=>by have:=X k J;simpa[World.setCell]using this⟩,h.inF,h.le,h.sm⟩
end
section
open Go.RowKit
end
section
open Go.RowKit
def byN(l:List Nat):Nat:=l.foldl (λa x=>a * 256+x) 0
theorem B1k(l:List Nat)(x:Nat):byN (l++[x])=byN l * 256+x:=by simp[byN]
theorem B8s(l:List Nat)(h:∀x∈l,x<256):be l.length (byN l)=l:=by
 have H:∀n (l:List Nat),l.length=n->(∀x∈l,x<256)->be n (byN l)=l:=by
  intro n
  induction n with
  |zero=>intro l J _;rw[List.eq_nil_of_length_eq_zero J];rfl
  |succ n ih=>
   intro l J h
   have I:l≠[]:=by intro e;simp[e]at J
   have e:=List.dropLast_concat_getLast I
   have U:=h (l.getLast I) (List.getLast_mem I)
   have V:=ih l.dropLast (by simp;omega) (λx U=>h x ((List.dropLast_sublist l).subset U))
   rw[<-e,B1k]
   show be n ((byN l.dropLast * 256+l.getLast I)/256)++[(byN l.dropLast * 256+l.getLast I)%256]=_
   rw[show(byN l.dropLast * 256+l.getLast I)/256=byN l.dropLast from by omega,show(byN l.dropLast * 256+l.getLast I)%256=l.getLast I from by omega,V]
 exact H _ l rfl h
def rest(q V a:Nat):Nat:=V%2^(8 * q-a)
end
section
open Go.RowKit
end
section
open Go.ChangeShapes Go.WideShapes Go.ChangeAt Go.RowKit
structure L6 where
 k:Int
 g:Int
 v:Nat
 a:Nat->Int
def ic(x:L6):Array Value:= #[.int .i64 x.k,.int .i64 x.g,.int .u64 (x.v:Int),.int .i64 (x.a 0),.int .i64 (x.a 1),.int .i64 (x.a 2),.int .i64 (x.a 3),.int .i64 (x.a 4),.int .i64 (x.a 5),.int .i64 (x.a 6),.int .i64 (x.a 7)]
def P9(z:Int):Nat:=(z%18446744073709551616).toNat
theorem A9C(z:Int):P9 z<18446744073709551616:=by unfold P9;omega
theorem A2T(z:Int):IntKind.u64.wrap z=((P9 z:Nat):Int):=by rw[IntKind.wrap_u64];unfold P9;omega
def nJ(x:L6):Nat->Nat
 |0=>((0 * 2^2+P9 x.k) * 2^31+P9 x.g) * 2^40+x.v
 |j+1=>nJ x j * 2^12+P9 (x.a j)
def okJ(x:L6):Nat->Prop
 |0=>((True/\P9 x.k<2^2)/\P9 x.g<2^31)/\x.v<2^40
 |j+1=>okJ x j/\P9 (x.a j)<2^12
def mJ(j:Nat):Nat:=73+12 * j
instance okJ_dec (x:L6):∀j,Decidable (okJ x j)
 |0=>by unfold okJ;exact inferInstance
 |j+1=>by unfold okJ;exact @instDecidableAnd _ _ (okJ_dec x j) _
def A89(x:L6):Prop:=x.v=0/\∀j,j<8->x.a j=0
instance (x:L6):Decidable (A89 x):=by unfold A89;exact inferInstance
def A1U(x:L6):Prop:=if x.k=0 then A89 x else x.k=1\/x.k=2
instance (x:L6):Decidable (A1U x):=by unfold A1U;exact inferInstance
def okI(x:L6):Prop:=A1U x/\okJ x 8
instance (x:L6):Decidable (okI x):=by unfold okI;exact inferInstance
def sh:Nat:=855
theorem C4p:sh=855:=rfl
theorem C2d(a b c:Nat)(h:a+8 * b=c):2^a * 256^b=2^c:=by
 rw[show(256:Nat)^b=2^(8 * b)from(Nat.pow_mul 2 8 b).symm,<-Nat.pow_add,h]
theorem C2H(a b c:Nat)(h:8 * b=a+c):256^b=2^a * 2^c:=by
 rw[show(256:Nat)^b=2^(8 * b)from(Nat.pow_mul 2 8 b).symm,h,Nat.pow_add]
def secI(x:L6):List Nat:=be 128 (nJ x 8 * 2^sh)
def prt(V:Nat):L6:=⟨(C4 128 V 0 2:Nat),(C4 128 V 2 31:Nat),C4 128 V 33 40,λj=>((C4 128 V (73+12 * j) 12:Nat):Int)⟩
def A1e(l:List Nat):Option L6:=if l.length=128/\okI (prt (byN l))/\secI (prt (byN l))=l then some (prt (byN l))else none
structure EqI (x y:L6):Prop where
 k:x.k=y.k
 g:x.g=y.g
 v:x.v=y.v
 a:∀j,j<8->x.a j=y.a j
structure WfI (x:L6):Prop where
 k: -9223372036854775808<=x.k/\x.k<9223372036854775808
 g: -9223372036854775808<=x.g/\x.g<9223372036854775808
 v:x.v<18446744073709551616
 a:∀j,j<8-> -9223372036854775808<=x.a j/\x.a j<9223372036854775808
theorem EqI.nJ{x y:L6}(h:EqI x y):∀j,j<=8->nJ x j=nJ y j
 |0,_=>by simp only[Proofs.YtbefmjiclpobjaaGreat.nJ,h.k,h.g,h.v]
 |j+1,hj=>by simp only[Proofs.YtbefmjiclpobjaaGreat.nJ,h.nJ j (by omega),h.a j (by omega)]
theorem EqI.okJ{x y:L6}(h:EqI x y):∀j,j<=8->(okJ x j↔okJ y j)
 |0,_=>by simp only[Proofs.YtbefmjiclpobjaaGreat.okJ,h.k,h.g,h.v]
 |j+1,hj=>by simp only[Proofs.YtbefmjiclpobjaaGreat.okJ,h.okJ j (by omega),h.a j (by omega)]
theorem EqI.okI{x y:L6}(h:EqI x y):okI x↔okI y:=by
 have e:(∀j,j<8->x.a j=0)↔(∀j,j<8->y.a j=0):=⟨λk j I=>by rw[<-h.a j I];exact k j I,λk j I=>by rw[h.a j I];exact k j I⟩
 simp only[Proofs.YtbefmjiclpobjaaGreat.okI,A1U,A89,h.k,h.v,h.okJ 8 (by decide),e]
theorem EqI.secI{x y:L6}(h:EqI x y):secI x=secI y:=by unfold Proofs.YtbefmjiclpobjaaGreat.secI;rw[h.nJ 8 (by decide)]
theorem A2o(x:L6):(secI x).length=128:=C7 _ _
theorem A6g(x:L6):∀y∈secI x,y<256:=A3T _ _
theorem A1L(q V:Nat):∀k,be (q+k) (V * 256^k)=be q V++List.replicate k 0
 |0=>by simp
 |k+1=>by
  rw[show q+(k+1)=(q+k)+1 from rfl,Nat.pow_succ,<-Nat.mul_assoc,B4d,A1L q V k,List.append_assoc,List.replicate_succ']
theorem B8u(x:L6):V1 (nJ x 8) 169++List.replicate 106 0=secI x:=by
 have h:=A1L 22 (nJ x 8 * 2^7) 106
 unfold V1 secI
 have e:(2:Nat)^7 * 256^106=2^sh:=C2d 7 106 sh rfl
 rw[Nat.mul_assoc,e]at h
 rw[show qn 169=22 from rfl,show pad 169=7 from rfl,<-h]
theorem B3i{x:L6}(h:okJ x 0):P9 x.k<4/\P9 x.g<2147483648/\x.v<1099511627776:=⟨h.1.1.2,h.1.2,h.2⟩
theorem A4Y{x:L6}:∀{j i:Nat},okJ x (i+j)->okJ x i
 |0,_,h=>h
 |j+1,i,h=>A4Y (j:=j) (i:=i) h.1
theorem B3j{x:L6}:∀(j i:Nat),okJ x (i+j)->nJ x (i+j)/2^(12 * j)=nJ x i
 |0,i,_=>by simp
 |j+1,i,h=>by
  have e:nJ x (i+(j+1))=nJ x (i+j) * 2^12+P9 (x.a (i+j)):=rfl
  have I:P9 (x.a (i+j))<2^12:=h.2
  rw[show 12 * (j+1)=12+12 * j by omega,Nat.pow_add,<-Nat.div_div_eq_div_mul,e,Nat.mul_comm,Nat.mul_add_div (by decide),Nat.div_eq_of_lt I,Nat.add_zero]
  exact B3j j i h.1
theorem A8A(N s t:Nat):N * 2^s/2^(s+t)=N/2^t:=by
 rw[Nat.pow_add,<-Nat.div_div_eq_div_mul,Nat.mul_div_cancel _ (Nat.two_pow_pos _)]
theorem A1M(N a n t:Nat)(h:8 * 128-a-n=sh+t):C4 128 (N * 2^sh) a n=N/2^t%2^n:=by
 unfold C4
 rw[h,A8A]
theorem C4q{x:L6}(h:okJ x 8){j:Nat}(V:j<8):C4 128 (nJ x 8 * 2^sh) (73+12 * j) 12=P9 (x.a j):=by
 obtain⟨i,hi⟩:∃i,8=(j+1)+i:=⟨7-j,by omega⟩
 have I:=h
 rw[hi]at I
 have J:=B3j i (j+1) I
 have U:P9 (x.a j)<2^12:=(A4Y (i:=j+1) (j:=i) I).2
 rw[A1M _ _ _ (12 * i) (by rw[C4p];omega),show nJ x 8=nJ x (j+1+i)by rw[<-hi],J]
 show(nJ x j * 2^12+P9 (x.a j))%2^12=_
 rw[Nat.mul_comm,Nat.mul_add_mod,Nat.mod_eq_of_lt U]
theorem C2e{x:L6}(h:okJ x 8):nJ x 8/2^96=((P9 x.k) * 2147483648+P9 x.g) * 1099511627776+x.v:=by
 have:=B3j (x:=x) 8 0 (by simpa using h)
 rw[show 12 * 8=96 from rfl,Nat.zero_add]at this
 rw[this,nJ]
 simp only[Nat.zero_mul,Nat.zero_add]
theorem B6u{x:L6}(h:okJ x 8):C4 128 (nJ x 8 * 2^sh) 0 2=P9 x.k/\C4 128 (nJ x 8 * 2^sh) 2 31=P9 x.g/\C4 128 (nJ x 8 * 2^sh) 33 40=x.v:=by
 have I:=B3i (A4Y (i:=0) (j:=8) (by simpa using h))
 have e:=C2e h
 refine⟨?_,?_,?_⟩
 ·rw[A1M _ _ _ (96+71) rfl,Nat.pow_add,<-Nat.div_div_eq_div_mul,e];omega
 ·rw[A1M _ _ _ (96+40) rfl,Nat.pow_add,<-Nat.div_div_eq_div_mul,e];omega
 ·rw[A1M _ _ _ 96 rfl,e];omega
theorem A3A{z:Int}(I: -9223372036854775808<=z/\z<9223372036854775808)(J:P9 z<9223372036854775808):((P9 z:Nat):Int)=z:=by unfold P9 at *;omega
theorem B3k:∀(q V:Nat),V<256^q->byN (be q V)=V
 |0,V,h=>by simp at h;subst h;rfl
 |q+1,V,h=>by
  rw[be,B1k,B3k q (V/256) (by rw[Nat.pow_succ]at h;exact Nat.div_lt_of_lt_mul (by rwa[Nat.mul_comm]at h)),Nat.div_add_mod']
theorem C4r{x:L6}(h:okJ x 8):nJ x 8 * 2^sh<256^128:=by
 have U:=B3i (A4Y (i:=0) (j:=8) (by simpa using h))
 have e:=C2e h
 have:nJ x 8<2^169:=by
  have I:nJ x 8/2^96<2^73:=by rw[e];omega
  rw[show 169=96+73 from rfl,Nat.pow_add]
  have J:=(Nat.div_lt_iff_lt_mul (Nat.two_pow_pos _)).mp I
  rwa[Nat.mul_comm]at J
 refine Nat.lt_of_lt_of_eq ?_ (C2H 169 128 sh rfl).symm
 exact Nat.mul_lt_mul_of_pos_right this (Nat.two_pow_pos _)
theorem B8v{x:L6}(h:okI x):byN (secI x)=nJ x 8 * 2^sh:=B3k _ _ (C4r h.2)
theorem B8w{x:L6}(I:WfI x)(h:okI x):EqI (prt (byN (secI x))) x:=by
 rw[B8v h]
 obtain⟨V,W,X⟩:=B6u h.2
 have Y:=B3i (A4Y (i:=0) (j:=8) (by simpa using h.2))
 refine⟨?_,?_,X,λj U=>?_⟩
 ·show((C4 128 _ 0 2:Nat):Int)=_
  rw[V,A3A I.k (by omega)]
 ·show((C4 128 _ 2 31:Nat):Int)=_
  rw[W,A3A I.g (by omega)]
 ·show((C4 128 _ (73+12 * j) 12:Nat):Int)=_
  obtain⟨i,hi⟩:∃i,8=(j+1)+i:=⟨7-j,by omega⟩
  have J:=h.2
  rw[hi]at J
  have Z:P9 (x.a j)<2^12:=(A4Y (i:=j+1) (j:=i) J).2
  rw[C4q h.2 U,A3A (I.a j U) (by omega)]
theorem A4Z{x:L6}(I:WfI x)(h:okI x):∃y,A1e (secI x)=some y/\EqI y x:=by
 have e:=B8w I h
 exact⟨_,if_pos ⟨A2o x,e.okI.mpr h,e.secI⟩,e⟩
theorem B6v{l:List Nat}{y:L6}(h:A1e l=some y):okI y/\secI y=l:=by
 unfold A1e at h
 split at h
 ·next I=>
  obtain rfl:=Option.some.inj h
  exact⟨I.2.1,I.2.2⟩
 ·cases h
theorem B3l(V:Nat):WfI (prt V):=by
 have I:=Q7 128 V 0 2
 have J:=Q7 128 V 2 31
 have h3:=Q7 128 V 33 40
 refine⟨?_,?_,?_,λj _=>?_⟩
 ·show _<=((C4 128 V 0 2:Nat):Int)/\((C4 128 V 0 2:Nat):Int)<_;omega
 ·show _<=((C4 128 V 2 31:Nat):Int)/\((C4 128 V 2 31:Nat):Int)<_;omega
 ·show C4 128 V 33 40<_;omega
 ·have U:=Q7 128 V (73+12 * j) 12
  show _<=((C4 128 V (73+12 * j) 12:Nat):Int)/\((C4 128 V (73+12 * j) 12:Nat):Int)<_;omega
def isI(x:L6):Prop:=(∀j,j<8->0<=x.a j/\x.a j<=4095)/\0<=x.k/\x.k<=2/\0<=x.g/\x.g<=2147483647/\x.v<=1099511627775/\(0<x.k\/A89 x)
theorem A9D{x:L6}:∀j,okJ x j↔okJ x 0/\∀i,i<j->P9 (x.a i)<2^12
 |0=>⟨λh=>⟨h,λ_ h=>absurd h (Nat.not_lt_zero _)⟩,λh=>h.1⟩
 |j+1=>by
  show(okJ x j/\P9 (x.a j)<2^12)↔_
  rw[A9D j]
  constructor
  ·rintro⟨⟨J,I⟩,h3⟩
   exact⟨J,λi hi=>by by_cases e:i=j;subst e;exact h3;exact I i (by omega)⟩
  ·rintro⟨J,I⟩
   exact⟨⟨J,λi hi=>I i (by omega)⟩,I j (by omega)⟩
theorem B4A{x:L6}(Y:WfI x):isI x↔okI x:=by
 unfold isI okI
 rw[A9D 8]
 have hk:=Y.k
 have hg:=Y.g
 have X:∀j,j<8->((0<=x.a j/\x.a j<=4095)↔P9 (x.a j)<2^12):=λj I=>by
  have:=Y.a j I
  unfold P9;omega
 have aA:P9 x.g<2^31↔0<=x.g/\x.g<=2147483647:=by unfold P9;omega
 have aB:P9 x.k<2^2↔0<=x.k/\x.k<=3:=by unfold P9;omega
 unfold okJ A1U
 constructor
 ·rintro⟨J,U,h3,Z,V,h6,W⟩
  refine⟨?_,⟨⟨⟨trivial,aB.mpr ⟨U,by omega⟩⟩,aA.mpr ⟨Z,V⟩⟩,by omega⟩,λj I=>(X j I).mp (J j I)⟩
  split
  ·rcases W with W|W
   ·omega
   ·exact W
  ·omega
 ·rintro⟨J,⟨⟨⟨_,U⟩,h3⟩,Z⟩,V⟩
  have U:=aB.mp U
  have h3:=aA.mp h3
  split at J
  ·exact⟨λj I=>(X j I).mpr (V j I),by omega,by omega,h3.1,h3.2,by omega,.inr J⟩
  ·exact⟨λj I=>(X j I).mpr (V j I),by omega,by omega,h3.1,h3.2,by omega,.inl (by omega)⟩
def nzI(x:L6):Nat->List Int
 |0=>[]
 |j+1=>if x.a j≠0 then nzI x j++[x.a j]else nzI x j
theorem A6W(x:L6):∀j,(nzI x j).length<=j
 |0=>Nat.le_refl _
 |j+1=>by
  have:=A6W x j
  unfold nzI
  split
  ·simp;omega
  ·omega
end
end Go.Proofs.YtbefmjiclpobjaaGreat
