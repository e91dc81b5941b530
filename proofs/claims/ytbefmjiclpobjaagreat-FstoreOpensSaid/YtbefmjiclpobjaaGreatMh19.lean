import Derived.Test.YtbefmjiclpobjaaGreatMh18
import Derived.Test.YtbefmjiclpobjaaGreatMh11
namespace Go.Proofs.YtbefmjiclpobjaaGreat
set_option maxHeartbeats 3200000
set_option maxRecDepth 3000
section
open Go.RowKit
structure CS where
 H:Nat->List Nat
 e:Int
def CS.note(s:CS)(I:Int):CS:=⟨s.H,L7 s.e I⟩
def CS.put(s:CS)(i:Nat)(l:List Nat):CS:=⟨A0u s.e s.H i l,s.e⟩
def CS.set(s:CS)(i:Nat)(x:L6):CS:=(s.note (A6z x)).put (1+i) (secI x)
noncomputable def CS.take(s:CS)(M:Nat):CS:=(s.note (T3 (C8 s.H M))).put 1 (mapB (T9 (C8 s.H M)))
noncomputable def CS.give(s:CS)(M:Nat)(a:Int):CS:=(s.note (A0W (C8 s.H M) a)).put 1 (mapB (U3 (C8 s.H M) a))
noncomputable def CS.place(s:CS)(M:Nat)(a:Int)(l:List Nat):CS:=
 if l=[]then(if a=0 then s else s.give M a)else if a=0 then(s.take M).put (T2 (C8 s.H M)).toNat l else s.put a.toNat l
noncomputable def CS.placeI(s:CS)(M:Nat)(a:Int)(l:List Nat):Int:=if l=[]then 0 else if a=0 then T2 (C8 s.H M)else a
abbrev Cs(w:World)(E:Ev)(c m:Nat)(s:CS):Prop:=Cg w E c m s.H s.e
def B8A(w:World)(c m:Nat)(v:Value)(n:Nat)(l:List Nat):Prop:=∀W,A8 (CF c m) w (CF c m) W->Rd W 1 v n (l.map u8)
theorem A0o{e I:Int}(h:L7 e I=0):e=0/\I=0:=by
 unfold L7 at h
 split at h
 ·exact⟨by assumption,h⟩
 ·rename_i J;exact absurd h J
theorem A8g{T:List Bool}(h:T3 T=0):T2 T=(J8 T:Int)/\J8 T<T.length:=by
 unfold T3 at h
 split at h
 ·rename_i I;exact⟨by unfold T2;rw[if_pos I],I⟩
 ·cases h
section
variable {w w':World} {E:Ev} {c m:Nat} {s:CS}
theorem A8h(h:Cs w E c m s)(hs:Sd s.H E.M)(a:Int)(A:Option Addr)(n k:Nat)(l:List Nat)(hn:n=l.length)(hl:l=[]\/(l.length=128/\∀y∈l,y<256))(hr:B8A w c m (.slice A n k) n l)(ha:a=0\/(0<=a/\a<E.M)):
 Calls Tryz.prog 88 #[.pointer (some ⟨c,0,none⟩),.int .i64 a,.slice A n k] w λr w'=>r= .returned (.int .i64 (s.placeI E.M a l))/\Cs w' E c m (s.place E.M a l)/\A8 (CF c m) w (CF c m) w':=by
 by_cases V:l=[]
 ·have aH:n=0:=by rw[hn,V];rfl
  have Y:s.placeI E.M a l=0:=by unfold CS.placeI;rw[if_pos V]
  have Z:s.place E.M a l=if a=0 then s else s.give E.M a:=by unfold CS.place;rw[if_pos V]
  rw[Y,Z]
  subst aH
  by_cases I:a=0
  ·rw[if_pos I]
   have HC:=C3t h
   subst I
   clear hn hl hr ha V Y Z h hs
   go_enter Tryz.func88,Tryz.ntmps88
   go_wp2
   go_ret
   exact⟨rfl,HC.out,A8.refl _ _⟩
  ·rw[if_neg I]
   have HG:=C3t (C0v h hs a)
   have hb:(a !=0)=true:=by rw[bne_iff_ne];exact I
   clear hn hl hr ha V Y Z h hs I
   go_enter Tryz.func88,Tryz.ntmps88
   go_wp2_with (first
    |(go_at_call 143;refine HG.out.mono ?_;rintro r w1 ⟨rfl,J,U⟩;have X:=C3t (And.intro J U);clear J U)
    |fail)
   go_ret
   exact⟨rfl,X.out.1,X.out.2⟩
 ·obtain⟨aA,aB⟩:l.length=128/\∀y∈l,y<256:=by rcases hl with x|x;exact absurd x V;exact x
  have Y:s.placeI E.M a l=if a=0 then T2 (C8 s.H E.M)else a:=by unfold CS.placeI;rw[if_neg V]
  have Z:s.place E.M a l=if a=0 then(s.take E.M).put (T2 (C8 s.H E.M)).toNat l else s.put a.toNat l:=by unfold CS.place;rw[if_neg V]
  rw[Y,Z]
  obtain rfl:n=128:=by rw[hn,aA]
  by_cases I:a=0
  ·rw[if_pos I,if_pos I]
   have HT:=C3t (C0u h hs)
   have HM:=C3t (show(C8 s.H E.M).length=E.M from N6 _ _)
   have HR:=C3t hr
   have HL:=C3t (And.intro aA aB)
   have HP:=C3t (λ(W:World) (k':Cs W E c m (s.take E.M)) (b:A8 (CF c m) w (CF c m) W)=>A7d k' (T2 (C8 s.H E.M)) A 128 k l (λI=>by
    obtain⟨x1,x2⟩:=A0o (show L7 s.e (T3 (C8 s.H E.M))=0 from I)
    obtain⟨y1,y2⟩:=A8g x2
    exact⟨J8 (C8 s.H E.M),y1,by rw[HM.out]at y2;exact y2,rfl,HL.out.1,HL.out.2,HR.out W b⟩))
   obtain⟨ti,aE⟩:∃ti,ti=T2 (C8 s.H E.M):=⟨_,rfl⟩
   rw[<-aE]at HT HP⊢
   obtain⟨s1,aC⟩:∃s1,s1=s.take E.M:=⟨_,rfl⟩
   have aG:=C3t (show Calls Tryz.prog 144 #[.pointer (some ⟨c,0,none⟩)] w λr w'=>r= .returned (.int .i64 ti)/\Cs w' E c m s1/\A8 (CF c m) w (CF c m) w' by rw[aC];exact HT.out)
   rw[<-aC]at HP⊢
   subst I
   clear hn hl hr ha V Y Z h hs aA aB aE aC HT
   go_enter Tryz.func88,Tryz.ntmps88
   go_wp2_with (first
    |(go_at_call 144;refine aG.out.mono ?_;rintro r w1 ⟨rfl,J,U⟩;have aF:=C3t J;have aD:=C3t U;clear J U)
    |(go_at_call 98;refine(HP.out w1 aF.out aD.out).mono ?_;rintro r w2 ⟨rfl,J,U⟩;have X:=C3t (And.intro J (aD.out.trans U));clear J U)
    |fail)
   go_ret
   exact⟨rfl,X.out.1,X.out.2⟩
  ·rw[if_neg I,if_neg I]
   have HP:=C3t (A7d h a A 128 k l (λ_=>by
    rcases ha with x|x
    ·exact absurd x I
    ·exact⟨a.toNat,by omega,by omega,rfl,aA,aB,hr w (A8.refl _ _)⟩))
   have hb:(a==0)=false:=by rw[beq_eq_false_iff_ne];exact I
   clear hn hl hr ha V Y Z h hs aA aB I
   go_enter Tryz.func88,Tryz.ntmps88
   go_wp2_with (first
    |(go_at_call 98;refine HP.out.mono ?_;rintro r w2 ⟨rfl,J,U⟩;have X:=C3t (And.intro J U);clear J U)
    |fail)
   go_ret
   exact⟨rfl,X.out.1,X.out.2⟩
end
end
section
open Go.RowKit
structure Sw (H:Nat->List Nat) (M:Nat):Prop where
 sd:Sd H M
 low:∀h,h<42->(C8 H M).getD h false=true
theorem A28{r:List Nat}{T:List Bool}{M:Nat}(h:Rep r T)(U:T.length=M)(Y:1<=M)(Z:M<=1024):A0s r (M:Int)/\A1m r M=T:=by
 refine⟨⟨by omega,by omega,h.len,λj I W=>?_⟩,?_⟩
 ·rw[h.bit j W]
  have:T.length<=j:=by rw[U];simpa using I
  rw[List.getD_eq_getElem?_getD,List.getElem?_eq_none this];rfl
 ·apply List.ext_getElem
  ·rw[N6,U]
  ·intro j I X
   have V:j<M:=by rw[N6]at I;exact I
   have J:=A9d r M j V
   rw[h.has (by rw[U];exact V) (by omega)]at J
   rw[List.getD_eq_getElem?_getD,List.getElem?_eq_getElem I,List.getD_eq_getElem?_getD,List.getElem?_eq_getElem X]at J
   simpa using J
theorem Sd.rep{H:Nat->List Nat}{M:Nat}(h:Sd H M):Rep (H 1) (C8 H M)/\(C8 H M).length=M:=by
 obtain⟨I,J⟩:=h.row 1 (by have:=h.hM;omega)
 exact⟨A6J I J (by have:=h.map.2.2.2;simpa using this),N6 _ _⟩
theorem V7(H:Nat->List Nat)(i:Nat)(l:List Nat):M4 H i l i=l:=if_pos rfl
theorem E7(H:Nat->List Nat){i j:Nat}(l:List Nat)(h:j≠i):M4 H i l j=H j:=if_neg h
theorem Sw.map{H:Nat->List Nat}{M:Nat}{T:List Bool}(h:Sw H M)(I:∃r,Rep r T)(X:T.length=M)(Y:∀k,k<42->T.getD k false=true):Sw (M4 H 1 (mapB T)) M/\C8 (M4 H 1 (mapB T)) M=T:=by
 obtain⟨r,I⟩:=I
 rw[I.mapB]
 have W:=h.sd.hM
 obtain⟨Z,o2⟩:=A28 I X (by omega) (by omega)
 have e:C8 (M4 H 1 r) M=T:=by unfold C8;rw[V7];exact o2
 refine⟨⟨⟨W,λi hi=>?_,by rw[V7];exact Z,λi U V=>?_⟩,by rw[e];exact Y⟩,e⟩
 ·by_cases J:i=1
  ·rw[J,V7];exact⟨I.len,I.lt⟩
  ·rw[E7 _ _ J];exact h.sd.row i hi
 ·rw[E7 _ _ (by omega)];exact h.sd.ino i U V
theorem Sw.blk{H:Nat->List Nat}{M a:Nat}{l:List Nat}(h:Sw H M)(X:42<=a\/a=0)(W:l.length=128)(V:∀y∈l,y<256):Sw (M4 H a l) M/\C8 (M4 H a l) M=C8 H M:=by
 have e:C8 (M4 H a l) M=C8 H M:=by unfold C8;rw[E7 _ _ (by omega)]
 refine⟨⟨⟨h.sd.hM,λi hi=>?_,by rw[E7 _ _ (by omega)];exact h.sd.map,λi J U=>?_⟩,by rw[e];exact h.low⟩,e⟩
 ·by_cases I:i=a
  ·rw[I,V7];exact⟨W,V⟩
  ·rw[E7 _ _ I];exact h.sd.row i hi
 ·rw[E7 _ _ (by omega)];exact h.sd.ino i J U
theorem Sw.setI{H:Nat->List Nat}{M i:Nat}{x:L6}(h:Sw H M)(hi:1<=i/\i<=40)(Z:WfI x)(ok:okI x)(W:∀j,j<8->x.a j=0\/(42<=x.a j/\x.a j<M)):Sw (M4 H (1+i) (secI x)) M/\C8 (M4 H (1+i) (secI x)) M=C8 H M:=by
 have e:C8 (M4 H (1+i) (secI x)) M=C8 H M:=by unfold C8;rw[E7 _ _ (by omega)]
 refine⟨⟨⟨h.sd.hM,λk Y=>?_,by rw[E7 _ _ (by omega)];exact h.sd.map,λk U V=>?_⟩,by rw[e];exact h.low⟩,e⟩
 ·by_cases I:k=1+i
  ·rw[I,V7];exact⟨A1n x,A4F x⟩
  ·rw[E7 _ _ I];exact h.sd.row k Y
 ·by_cases I:k=i
  ·subst I
   rw[V7]
   obtain⟨y,hy,X⟩:=A3C Z ok
   exact⟨y,hy,λj J=>by rw[X.a j J];exact W j J⟩
  ·rw[E7 _ _ (by omega)];exact h.sd.ino k U V
theorem A29{T:List Bool}{n:Nat}(V:∀h,h<n->T.getD h false=true)(h:J8 T<T.length):n<=J8 T:=by
 rcases Nat.lt_or_ge (J8 T) n with W|U
 ·have I:=V _ W
  have J:(!T[J8 T])=true:=List.findIdx_getElem (w:=h)
  rw[Z5 h]at I
  rw[I]at J
  cases J
 ·exact U
theorem A5J{T:List Bool}{j:Nat}(h:J8 T<T.length):(T9 T).getD j false=if j=J8 T then true else T.getD j false:=by
 unfold T9
 rw[A1L _ _ _ _ h]
theorem A5K{T:List Bool}{a:Int}{j:Nat}(h:0<=a/\a<T.length):(U3 T a).getD j false=if j=a.toNat then false else T.getD j false:=by
 unfold U3
 rw[if_pos (by unfold R5;exact h),A1L _ _ _ _ (by omega)]
section
variable {s:CS} {M:Nat}
theorem B8B(h:Sw s.H M):Sw (s.take M).H M:=by
 obtain⟨U,V⟩:=h.sd.rep
 have Y:=h.sd.hM
 unfold CS.take CS.put CS.note A0u
 simp only
 split
 ·rename_i J
  obtain⟨Z,X⟩:=A0o J
  obtain⟨y1,I⟩:=A8g X
  refine(h.map (T:=T9 (C8 s.H M)) ⟨_,U.put I (by omega)⟩ (by rw[A3a,V]) (λk W=>?_)).1
  rw[A5J I]
  split
  ·rfl
  ·exact h.low k W
 ·exact h
theorem B8C(h:Sw s.H M){a:Int}(X:42<=a/\a<M):Sw (s.give M a).H M:=by
 obtain⟨U,I⟩:=h.sd.rep
 have W:=h.sd.hM
 unfold CS.give CS.put CS.note A0u
 simp only
 split
 ·have J:0<=a/\a<((C8 s.H M).length:Int):=by rw[I];omega
  refine(h.map (T:=U3 (C8 s.H M) a) ⟨A4e (s.H 1) a.toNat,?_⟩ (by rw[A3b,I]) (λk V=>?_)).1
  ·unfold U3
   rw[if_pos (by unfold R5;exact J)]
   exact U.drop (by omega) (by omega)
  ·rw[A5K J,if_neg (by omega)]
   exact h.low k V
 ·exact h
theorem A5L(h:Sw s.H M){a:Int}{l:List Nat}(J:a=0\/(42<=a/\a<M))(X:l=[]\/(l.length=128/\∀y∈l,y<256)):Sw (s.place M a l).H M:=by
 unfold CS.place
 split
 ·split
  ·exact h
  ·rename_i _ I
   rcases J with x|x
   ·exact absurd x I
   ·exact B8C h x
 ·rename_i Y
  obtain⟨U,V⟩:l.length=128/\∀y∈l,y<256:=by rcases X with x|x;exact absurd x Y;exact x
  split
  ·have W:=B8B h
   unfold CS.put A0u
   split
   ·rename_i I
    obtain⟨x1,Z⟩:=A0o (show L7 s.e (T3 (C8 s.H M))=0 from I)
    obtain⟨y1,y2⟩:=A8g Z
    refine(W.blk (.inl ?_) U V).1
    rw[y1,Int.toNat_natCast]
    exact A29 h.low y2
   ·exact W
  ·rename_i I
   unfold CS.put A0u
   split
   ·refine(h.blk (.inl ?_) U V).1
    rcases J with x|x
    ·exact absurd x I
    ·omega
   ·exact h
theorem A3N(h:Sw s.H M){a:Int}{l:List Nat}(U:a=0\/(42<=a/\a<M)):s.placeI M a l=0\/(42<=s.placeI M a l/\s.placeI M a l<M)\/((s.place M a l).e≠0/\s.placeI M a l= -1):=by
 unfold CS.placeI
 split
 ·exact .inl rfl
 ·rename_i V
  split
  ·rename_i J
   obtain⟨X,Y⟩:=h.sd.rep
   by_cases I:J8 (C8 s.H M)<(C8 s.H M).length
   ·have W:T2 (C8 s.H M)=(J8 (C8 s.H M):Int):=by unfold T2;rw[if_pos I]
    have:=A29 h.low I
    exact .inr (.inl (by rw[W];omega))
   ·refine .inr (.inr ⟨?_,by unfold T2;rw[if_neg I]⟩)
    unfold CS.place
    rw[if_neg V,if_pos J]
    show L7 s.e (T3 (C8 s.H M))≠0
    intro x
    have:=(A0o x).2
    unfold T3 at this
    rw[if_neg I]at this
    cases this
  ·rename_i J
   rcases U with x|x
   ·exact absurd x J
   ·exact .inr (.inl x)
end
end
section
open Go.RowKit
noncomputable def fl(M:Nat)(x:L6)(bs:List (List Nat))(s:CS):Nat->CS×(Nat->Int)
 |0=>(s,x.a)
 |j+1=>((fl M x bs s j).1.place M (x.a j) (bs.getD j []),λi=>if i=j then(fl M x bs s j).1.placeI M (x.a j) (bs.getD j [])else(fl M x bs s j).2 i)
noncomputable def CS.fill(s:CS)(M:Nat)(x:L6)(bs:List (List Nat)):CS:=(fl M x bs s 8).1
noncomputable def CS.fillX(s:CS)(M:Nat)(x:L6)(bs:List (List Nat)):L6:=⟨x.k,x.g,x.v,(fl M x bs s 8).2⟩
def atX(x:L6)(a:Nat->Int):L6:=⟨x.k,x.g,x.v,a⟩
theorem B62(x:L6)(a:Nat->Int)(j:Nat)(I:j<8)(v:Int):(ic (atX x a)).setIfInBounds (3+j) (.int .i64 v)=ic (atX x (λi=>if i=j then v else a i)):=by
 have h:j=0\/j=1\/j=2\/j=3\/j=4\/j=5\/j=6\/j=7:=by omega
 rcases h with rfl|rfl|rfl|rfl|rfl|rfl|rfl|rfl<;>rfl
theorem B63(x:L6)(j:Nat)(I:j<8):(ic x)[3+j]? =some (.int .i64 (x.a j)):=by
 have h:j=0\/j=1\/j=2\/j=3\/j=4\/j=5\/j=6\/j=7:=by omega
 rcases h with rfl|rfl|rfl|rfl|rfl|rfl|rfl|rfl<;>rfl
def C0x(a:Nat->Int):List Value:=[.int .i64 (a 0),.int .i64 (a 1),.int .i64 (a 2),.int .i64 (a 3),.int .i64 (a 4),.int .i64 (a 5),.int .i64 (a 6),.int .i64 (a 7)]
theorem B4r{w:World}{z:Nat}{t:TypeId}{x:L6}(h:C0 w z t (ic x)):w.rangeAt z 3 (C0x x.a):=λj v hv=>by
 have I:j<8:=(List.getElem?_eq_some_iff.1 hv).1
 rw[h.cell,B63 x j I,<-hv]
 have h:j=0\/j=1\/j=2\/j=3\/j=4\/j=5\/j=6\/j=7:=by omega
 rcases h with rfl|rfl|rfl|rfl|rfl|rfl|rfl|rfl<;>rfl
theorem B4s:(Tryz.prog.info? 60).map (·.size)=some 8:=by kernel_rfl
def A0a(bs:List (List Nat)):Prop:=∀r∈bs,r.length=128/\∀y∈r,y<256
theorem A0a.at_{bs:List (List Nat)}(h:A0a bs)(j:Nat):bs.getD j []=[]\/((bs.getD j []).length=128/\∀y∈bs.getD j [],y<256):=by
 rw[List.getD_eq_getElem?_getD]
 cases hq:bs[j]? with
 |none=>exact .inl rfl
 |some r=>exact .inr (h r (List.mem_of_getElem? hq))
theorem A5M{M:Nat}{x:L6}{bs:List (List Nat)}{s:CS}(h:Sw s.H M)(J:A0a bs)(I:∀j,j<8->x.a j=0\/(42<=x.a j/\x.a j<M)):∀j,j<=8->Sw (fl M x bs s j).1.H M
 |0,_=>h
 |j+1,hj=>A5L (A5M h J I j (by omega)) (I j (by omega)) (J.at_ j)
def A4m(w:World)(c m:Nat)(v:Value)(bs:List (List Nat)):Prop:=∃cs:List Value,cs.length=bs.length/\∀W,A8 (CF c m) w (CF c m) W->Rd W 1 v bs.length cs/\∀(i:Nat) (b:Value) (r:List Nat),cs[i]? =some b->bs[i]? =some r->Rd W 1 b r.length (r.map u8)
theorem A4m.at_{w:World}{c m:Nat}{A:Option Addr}{n k j:Nat}{bs:List (List Nat)}{r:List Nat}(h:A4m w c m (.slice A n k) bs)(J:bs[j]? =some r):∃A' q,(∃b o,A=some ⟨b,o,none⟩/\∀W,A8 (CF c m) w (CF c m) W->W.cell? ⟨b,o+j,none⟩=some (.slice A' r.length q))/\∀W,A8 (CF c m) w (CF c m) W->Rd W 1 (.slice A' r.length q) r.length (r.map u8):=by
 obtain⟨cs,hl,I⟩:=h
 have aA:j<bs.length:=(List.getElem?_eq_some_iff.1 J).1
 have U:cs[j]? =some cs[j]:=List.getElem?_eq_getElem (by omega)
 obtain⟨A',q,e,_⟩:=((I w (A8.refl _ _)).2 j _ r U J).form
 refine⟨A',q,?_,λW a=>by have:=(I W a).2 j _ r U J;rwa[e]at this⟩
 have hn:n=bs.length:=by
  obtain⟨A0,c0,Y,_⟩:=(I w (A8.refl _ _)).1.form
  injection Y
 subst hn
 obtain⟨b,o,V,_,_⟩:=(I w (A8.refl _ _)).1.cells (by omega) (by decide)
 refine⟨b,o,V,λW a=>?_⟩
 obtain⟨b',o',X,_,Z⟩:=(I W a).1.cells (by omega) (by decide)
 rw[V]at X
 cases X
 have:=Z j _ U
 rwa[e]at this
theorem A4m.later{w V:World}{c m:Nat}{v:Value}{bs:List (List Nat)}(h:A4m w c m v bs)(U:A8 (CF c m) w (CF c m) V):A4m V c m v bs:=by
 obtain⟨cs,I,J⟩:=h
 exact⟨cs,I,λW a=>J W (U.trans a)⟩
def FlQ(w:World)(E:Ev)(c m z:Nat)(x:L6)(bs:List (List Nat))(s:CS)(I:Nat)(t12:Value)(wr:World):Prop:=
 ∃j:Nat,t12= .int .i64 (j:Int)/\j<=8/\Cs wr E c m (fl E.M x bs s j).1/\C0 wr z 62 (ic (atX x (fl E.M x bs s j).2))/\C0 wr I 62 (ic J3)/\A8 (CF c m) w (CF c m) wr
section
variable {w w':World} {E:Ev} {c m:Nat} {s:CS}
theorem A9E{J:Func}{p:Tmp}{ty:TypeId}(h:J.results= #[.cell p ty])(I:Array Value)(w:World){z:Nat}{t:TypeId}{C:Array Value}{d:TypeDesc}(W:I.getD p undef= .pointer (some ⟨z,0,none⟩))(U:C0 w z t C)
 (X:Tryz.prog.underlying ty=some d) (V:d.isRow=true) (hi:(Tryz.prog.info? ty).map (·.size)=some C.size):(results J I).run Tryz.prog w= .ok (.agg C) w:=by
 have:=A07 h I Tryz.prog w W (C0.range U) X V (by rw[hi,Array.length_toList])
 rwa[Array.toArray_toList]at this
theorem C0y(h:Cs w E c m s)(hs:Sw s.H E.M)(x:L6)(hx:∀j,j<8->x.a j=0\/(42<=x.a j/\x.a j<E.M))(A:Option Addr)(n k:Nat)(bs:List (List Nat))(hn:n=bs.length)(U:A0a bs)(Z:bs.length<=100)(hr:A4m w c m (.slice A n k) bs):
 Calls Tryz.prog 93 #[.pointer (some ⟨c,0,none⟩),.agg (ic x),.slice A n k] w λr w'=>r= .returned (.agg (ic (s.fillX E.M x bs)))/\Cs w' E c m (s.fill E.M x bs)/\A8 (CF c m) w (CF c m) w':=by
 have HC:=C3t h
 have HX:=C3t hx
 have HN:=C3t hn
 have HB:=C3t U
 have HR:=C3t hr
 have aF:=C3t (A5M hs U hx)
 have bY:(n:Int)<=100:=by omega
 have bM:=C3t (λ(j:Nat) (hj:j<8) (w:World)=>show(Instr.index 60 (.agg (C0x x.a).toArray) (.int .i64 (j:Int))).run Tryz.prog w= .ok (.int .i64 (x.a j)) w from A7N x.a j hj w)
 have aT:=C3t (λ(d:Nat) (hd:w.heap.size<=d)=>h.apart (G:=M0 d) (λk hk=>by unfold M0 at hk;omega))
 clear h hx hn U hr hs Z
 go_enter Tryz.func93,Tryz.ntmps93
 go_wp2_with (first
  |(refine C4 rfl _ rfl rfl ?_;intro I w1 hz U J;have aI:=C3t hz;have aR:=C3t U;have aP:=C3t J;clear hz U J)
  |(refine B6 rfl rfl C6 ?_;intro z6 w2 hz U J;have aJ:=C3t (Nat.le_trans aP.out.size hz);have bI:=C3t U;have aS:=C3t (aR.out.over J);have bO:=C3t (show I≠z6 fromλe=>by have:=aR.out.lt;omega);have aQ:=C3t (aP.out.trans J);clear hz U J)
  |(refine wpList_load_mid rfl 60 (.tmp 10) rfl I 3 rfl (C0x x.a) _ (B4r aS.out) Tryz.underlying60 rfl (by rw[B4s];rfl) ?_)
  |fail)
 go_loopw [12] (FlQ w E c m I x bs s z6) (λt _=>8-(intOf t).toNat)
 case atStart=>exact⟨0,rfl,by omega,HC.out.step aQ.out,aS.out,bI.out,aQ.out.same (λ_ x=>x.elim)⟩
 case round=>
  obtain⟨j,rfl,hj,hc,Y,aB,J⟩:=hrel
  by_cases aC:j<8
  ·have bV:=bM.out j aC
   have bX:(j:Int)<8:=by omega
   have bA:=HX.out j aC
   have bG:=HB.out.at_ j
   have aO:=aF.out j (by omega)
   obtain⟨X,aN⟩:∃X,X=(fl E.M x bs s j).1:=⟨_,rfl⟩
   obtain⟨aj,aK⟩:∃aj,aj=(fl E.M x bs s j).2:=⟨_,rfl⟩
   have bD:fl E.M x bs s (j+1)=(X.place E.M (x.a j) (bs.getD j []),λi=>if i=j then X.placeI E.M (x.a j) (bs.getD j [])else aj i):=by rw[aN,aK];rfl
   rw[<-aN]at hc aO
   rw[<-aK]at Y
   have aG:=C3t bD
   have aF:=C3t aO
   have aV:=C3t hc
   have bT:=C3t Y
   have bU:=C3t aB
   have aU:=C3t J
   have aX:=C3t aC
   have aW:=C3t bA
   have aH:=C3t bG
   have aD:=C3t (show∀V,Cs V E c m (X.place E.M (x.a j) (bs.getD j []))->A8 (CF c m) wr (CF c m) V->V.cell? ⟨I,3+j,none⟩=some (.int .i64 (aj j))/\V.frozen? ⟨I,3+j,none⟩=false/\FlQ w E c m I x bs s z6 (.int .i64 ((j+1:Nat):Int)) (V.setCell ⟨I,3+j,none⟩ (.int .i64 (X.placeI E.M (x.a j) (bs.getD j []))))fromλV c5 a5=>by
    have b5:=Y.keep (a5.block I Y.lt (λhk=>aT.out I aI.out I hk rfl))
    have b6:=aB.keep (a5.block z6 aB.lt (λhk=>aT.out z6 aJ.out z6 hk rfl))
    have sc:A8 (M0 I) V (M0 I) (V.setCell ⟨I,3+j,none⟩ (.int .i64 (X.placeI E.M (x.a j) (bs.getD j [])))):=A8.setCell (F:=M0 I) (F':=M0 I) (p:=⟨I,3+j,none⟩) (A8.refl _ _) (.inl rfl) _
    refine⟨by rw[b5.cell,B63 _ j aC];rfl,b5.frozen _,j+1,rfl,by omega,?_,?_,b6.far1 sc (λe=>bO.out e.symm),(J.trans a5).freshG aI.out sc⟩
    ·rw[aG.out];exact HC.out.fresh c5 aI.out sc
    ·rw[aG.out]
     have:=b5.set_ (3+j) (.int .i64 (X.placeI E.M (x.a j) (bs.getD j [])))
     rw[B62 x aj j aC]at this
     exact this)
   obtain⟨l,Z⟩:∃l,l=bs.getD j []:=⟨_,rfl⟩
   rw[<-Z]at aH aD
   clear hc Y aB J bA bG aO bD aN aK aG
   by_cases aL:j<n
   ·have bS:(j:Int)<(n:Int):=by omega
    have aZ:j<bs.length:=by rw[<-HN.out];exact aL
    have bB:bs[j]? =some l:=by rw[Z,List.getD_eq_getElem?_getD,List.getElem?_eq_getElem aZ];rfl
    obtain⟨A',q,⟨b,o,rfl,aY⟩,bF⟩:=HR.out.at_ bB
    have bR:=aY wr aU.out
    have aA:=C3t (A8h aV.out aF.out.sd (x.a j) A' l.length q l rfl aH.out (λW a=>bF W (aU.out.trans a)) (by rcases aW.out with e|e;exact .inl e;exact .inr ⟨by omega,e.2⟩))
    obtain⟨ll,bC⟩:∃ll,ll=l.length:=⟨_,rfl⟩
    rw[<-bC]at bR aA
    obtain⟨pi,aE⟩:∃pi,pi=X.placeI E.M (x.a j) l:=⟨_,rfl⟩
    rw[<-aE]at aA aD
    clear aZ bB aY bF bC aE Z aL
    go_wp2_with (first
     |(go_at_call 88;refine aA.out.mono ?_;rintro r V ⟨rfl,h1,h2⟩;obtain⟨d5,f5,h5⟩:=aD.out V h1 h2;have H5:=C3t h5;clear h1 h2 h5)
     |fail)
    exact⟨by have:=H5.out;simpa using this,by have:=aX.out;simp[intOf]<;>omega⟩
   ·have aM:l=[]:=by rw[Z,List.getD_eq_getElem?_getD,List.getElem?_eq_none (by rw[<-HN.out];omega)];rfl
    have aA:=C3t (A8h aV.out aF.out.sd (x.a j) none 0 0 l (by rw[aM];rfl) aH.out (λW a=>by rw[aM];exact(Sl.nil W 5 1).rd) (by rcases aW.out with e|e;exact .inl e;exact .inr ⟨by omega,e.2⟩))
    obtain⟨pi,aE⟩:∃pi,pi=X.placeI E.M (x.a j) l:=⟨_,rfl⟩
    rw[<-aE]at aA aD
    have bS:¬(j:Int)<(n:Int):=by omega
    clear aM Z aE aL
    go_wp2_with (first
     |(go_at_call 88;refine aA.out.mono ?_;rintro r V ⟨rfl,h1,h2⟩;obtain⟨d5,f5,h5⟩:=aD.out V h1 h2;have H5:=C3t h5;clear h1 h2 h5)
     |fail)
    exact⟨by have:=H5.out;simpa using this,by have:=aX.out;simp[intOf]<;>omega⟩
  ·obtain rfl:j=8:=by omega
   have HF:=C3t (show Cs wr E c m (s.fill E.M x bs)/\A8 (CF c m) w (CF c m) wr from⟨hc,J⟩)
   have bP:=C3t (show C0 wr I 62 (ic (s.fillX E.M x bs))from Y)
   have bQ:=C3t aB
   clear hc Y aB J aC hj
   go_wp2_with (first
    |(refine C3 rfl _ rfl I bP.out rfl Tryz.underlying62 rfl B7 (C2 _) ?_)
    |(refine B5 rfl _ _ rfl z6 bQ.out rfl rfl B7 (C2 _) (C2 _) (D7 _) ?_;intro w7 U J;have bJ:=C3t U;have bK:=C3t (HC.out.fresh HF.out.1 aJ.out J);have bH:=C3t (HF.out.2.freshG aJ.out J);clear U J)
    |fail)
   exact bodyPost_ret (A9E rfl _ _ rfl bJ.out Tryz.underlying62 rfl (by rw[B7];rfl)) rfl ⟨rfl,bK.out,bH.out⟩
end
end
section
open Go.RowKit
noncomputable def CS.setEn(s:CS)(M:Nat)(i g:Int)(l:List En):CS:=
 (((s.note (bE l)).note (fileE s.H i g)).fill M (fileX s.H i g) (bL l)).set i.toNat (((s.note (bE l)).note (fileE s.H i g)).fillX M (fileX s.H i g) (bL l))
theorem A3h{H:Nat->List Nat}{M:Nat}(h:Sd H M)(i g:Int):WfI (fileX H i g)/\(∀j,j<8->(fileX H i g).a j=0\/(42<=(fileX H i g).a j/\(fileX H i g).a j<M))/\(fileX H i g).v<=1099511627775:=by
 by_cases I:fileE H i g=0
 ·obtain⟨W,X,_,_,U⟩:=A09 I
  obtain⟨d1,_,J⟩:=h.dec (i:=i.toNat) (by omega) (by omega)
  rw[U]
  refine⟨?_,J,?_⟩
  ·unfold C9 dI
   cases hq:A0t (H (1+i.toNat))with
   |none=>rw[hq]at d1;cases d1
   |some y=>
    have:y=prt (byN (H (1+i.toNat))):=by
     unfold A0t at hq
     split at hq
     ·exact(Option.some.inj hq).symm
     ·cases hq
    rw[this]
    exact B0P _
  ·have:=(B3V d1).1.2
   have V:=(A7L 8).1 this
   have:=V.1.2
   omega
 ·rw[(A1u I).1]
  exact⟨⟨by decide,by decide,by decide,λj _=>by show -9223372036854775808<=(0:Int)/\(0:Int)<9223372036854775808;decide⟩,λj _=>.inl rfl,by decide⟩
theorem A4H(l:List En):A0a (bL l):=B1c l
theorem C0z(l:List En):(bL l).length<=100:=by
 unfold bL
 split
 ·rename_i h
  have:=(B6f h).2
  rw[N3]
  unfold nCh
  omega
 ·exact Nat.zero_le _
theorem B64{M:Nat}{x:L6}{bs:List (List Nat)}{s:CS}(h:Sw s.H M)(J:A0a bs)(I:∀j,j<8->x.a j=0\/(42<=x.a j/\x.a j<M)):∀j,j<=8->∀i,i<8-> -1<=(fl M x bs s j).2 i/\(fl M x bs s j).2 i<2000
 |0,_,i,hi=>by
  have:=I i hi
  have U:=h.sd.hM
  show -1<=x.a i/\x.a i<2000
  omega
 |j+1,hj,i,hi=>by
  have V:=B64 h J I j (by omega) i hi
  have U:=h.sd.hM
  show -1<=(if i=j then _ else _)/\(if i=j then _ else _)<(2000:Int)
  split
  ·have:=A3N (s:=(fl M x bs s j).1) (l:=bs.getD j []) (A5M h J I j (by omega)) (I j (by omega))
   omega
  ·exact V
theorem A9F{M:Nat}{x:L6}{bs:List (List Nat)}{s:CS}(h:Sw s.H M)(U:A0a bs)(J:∀j,j<8->x.a j=0\/(42<=x.a j/\x.a j<M))(I:WfI x):WfI (s.fillX M x bs):=
 ⟨I.k,I.g,I.v,λj V=>by have:=B64 h U J 8 (Nat.le_refl _) j V;show -9223372036854775808<=(fl M x bs s 8).2 j/\(fl M x bs s 8).2 j<9223372036854775808;omega⟩
theorem RwO.stay{w:World}{E:Ev}{c m:Nat}{H:Nat->List Nat}{e:Int}{v:Value}{rs:List (List Nat)}(h:RwO w v rs)(Y:Cg w E c m H e)(h8:A0a rs):A4m w c m v rs:=by
 obtain⟨cs,h1,h2,h3⟩:=h.ex
 obtain⟨A,⟨D,⟨es,cl,hm,_⟩,_⟩,_⟩:=Y.ex
 have aA:∀{t:TypeId} {X n:Nat} {u:Value} {xs:List Value} {W:World},t≠175->A8 (CF c m) w (CF c m) W->w.ownsRow 0 t X u n xs->W.ownsRow 0 t X u n xs:=λ{t X n u xs W} aD ha V=>H6 V λk U=>by
  rcases V.2 with⟨rfl,_⟩|⟨I,aE,aF,rfl,_,J,_⟩
  ·simp[Value.ownBlock]at U
  ·obtain rfl:I=k:=by simpa[Value.ownBlock]using U
   have aC:I<w.heap.size:=by
    rcases Nat.lt_or_ge I w.heap.size with x|x
    ·exact x
    ·rw[Array.getElem?_eq_none x]at J;cases J
   refine ha.block I aC (λU=>?_)
   rcases U with rfl|rfl
   ·exact N2 V Y.blk aD rfl
   ·rw[hm]at J;cases J
 refine⟨cs,h2,λW a=>⟨A5A (aA (by decide) a h1),λi b r hb Z=>?_⟩⟩
 have aB:=(h8 r (List.mem_of_getElem? Z)).1
 rw[aB]
 exact A5A (aA (by decide) a (h3 i b r hb Z))
def C1M(W:World)(X:L6)(U:Int)(t7 t8:Value)(J:World):Prop:=∃I,t7= .int .i64 U/\t8= .pointer (some ⟨I,0,none⟩)/\C0 J I 62 (ic X)/\W.heap.size<=I/\A8 B0 W B0 J
section
variable {w w':World} {E:Ev} {c m:Nat} {s:CS}
theorem B8D(h:Cs w E c m s)(hs:Sw s.H E.M)(i g:Int)(hi:0<=i/\i<=40)(v:Value)(l:List En)(hl:M8 w v l):
 Calls Tryz.prog 141 #[.pointer (some ⟨c,0,none⟩),.agg #[.int .i64 i,.int .i64 g],v] w λr w'=>r= .returned (.tuple #[])/\Cs w' E c m (s.setEn E.M i g l)/\A8 (CF c m) w (CF c m) w':=by
 have HC:=C3t h
 have dB:=C3t hs
 have aU:=C3t (λW (a:A8 B0 w B0 W)=>A4j v l W (hl.step a))
 have bZ:=C3t (λ(e:Int) W (k:Cg W E c m s.H e)=>B1o k.rdv hs.sd i g)
 have aP:=C3t (A3h hs.sd i g)
 have HM:=C3t hs.sd.hM
 have aK:=C3t (And.intro (A4H l) (C0z l))
 obtain⟨X,hX⟩:∃X,X=fileX s.H i g:=⟨_,rfl⟩
 obtain⟨fe,bJ⟩:∃fe,fe=fileE s.H i g:=⟨_,rfl⟩
 obtain⟨be,bI⟩:∃be,be=bE l:=⟨_,rfl⟩
 obtain⟨B,hB⟩:∃B,B=bL l:=⟨_,rfl⟩
 have hR:s.setEn E.M i g l=(((s.note be).note fe).fill E.M X B).set i.toNat (((s.note be).note fe).fillX E.M X B):=by rw[hX,bJ,bI,hB];rfl
 rw[hR]
 unfold C1G at aU
 rw[<-bI,<-hB]at aU
 rw[<-hX,<-bJ]at bZ
 rw[<-hX]at aP
 rw[<-hB]at aK
 obtain⟨n,rfl⟩:∃n:Nat,i=(n:Int):=⟨i.toNat,by omega⟩
 rw[Int.toNat_natCast]
 obtain⟨s2,aR⟩:∃s2,s2=(s.note be).note fe:=⟨_,rfl⟩
 have bK:s2.H=s.H:=by rw[aR];rfl
 have bM:s2.e=L7 (L7 s.e be) fe:=by rw[aR];rfl
 have bO:Sw s2.H E.M:=by rw[bK];exact hs
 rw[<-aR]
 have aZ:=C3t (λW (k:Cg W E c m s.H s.e)=>U8 k be)
 obtain⟨e1,cE⟩:∃e1,e1=L7 s.e be:=⟨_,rfl⟩
 rw[<-cE]at aZ bM
 have cU:=C3t (λW (k:Cg W E c m s.H e1)=>show Calls Tryz.prog 101 #[.pointer (some ⟨c,0,none⟩),.int .i64 fe] W λr w'=>r= .returned (.tuple #[])/\Cs w' E c m s2/\A8 (CF c m) W (CF c m) w' by
  have:=U8 k fe
  rw[<-bM,<-bK]at this
  exact this)
 have bV:=C3t (λW (k:Cs W E c m s2) (A:Option Addr) (n q:Nat) (hn:n=B.length) (hr:A4m W c m (.slice A n q) B)=>C0y k bO X aP.out.2.1 A n q B hn aK.out.1 aK.out.2 hr)
 obtain⟨X3,bH⟩:∃X3,X3=s2.fillX E.M X B:=⟨_,rfl⟩
 obtain⟨s3,cG⟩:∃s3,s3=s2.fill E.M X B:=⟨_,rfl⟩
 have cY:=C3t (show WfI X3 by rw[bH];exact A9F bO aK.out.1 aP.out.2.1 aP.out.1)
 rw[<-bH,<-cG]at bV⊢
 have cB:=C3t (λW (k:Cs W E c m s3)=>show Calls Tryz.prog 104 #[.pointer (some ⟨c,0,none⟩),.int .i64 (n:Int),.agg (ic X3)] W λr w'=>r= .returned (.tuple #[])/\Cs w' E c m (s3.set n X3)/\A8 (CF c m) W (CF c m) w' from A7e k n (by omega) X3 cY.out (by have:=HM.out;omega))
 have aF:=C3t (λ(d:Nat) (hd:w.heap.size<=d)=>h.apart (G:=M0 d) (λk U=>by unfold M0 at U;omega))
 obtain⟨s4,cH⟩:∃s4,s4=s3.set n X3:=⟨_,rfl⟩
 rw[<-cH]at cB⊢
 clear hR hX bJ bI hB h hs hl aR bK bM bO cE bH cG cH hi
 go_enter Tryz.func141,Tryz.ntmps141
 go_upto_region 3 with(first
  |(refine C4 rfl _ rfl rfl ?_;intro J w1 hz Y I;have aQ:=C3t hz;have cO:=C3t Y;have bQ:=C3t I;clear hz Y I)
  |(go_at_call 174;refine(aU.out _ bQ.out).mono ?_;rintro r w2 ⟨A2,n2,c2,rfl,cF,I⟩;have cA:=C3t cF;have bT:=C3t (cO.out.over I);have bR:=C3t (bQ.out.trans I);have bU:=C3t (HC.out.step bR.out);clear cF I)
  |(go_at_call 101;refine(aZ.out w2 bU.out).mono ?_;rintro r w3 ⟨rfl,Z,I⟩;have aV:=C3t Z;have aS:=C3t ((bR.out.same (G:=CF c m) (λ_ x=>x.elim)).trans I);have aO:=C3t (bT.out.keep (I.block J bT.out.lt (λU=>aF.out J aQ.out J U rfl)));have cC:=C3t ((cA.out.stay bU.out aK.out.1).later I);have cV:=C3t (show n2=B.length from by obtain⟨A',c',e,_⟩:=(cA.out.rd (λr hr=>(aK.out.1 r hr).1)).form;injection e);clear Z I aZ)
  |fail)
 obtain⟨W,hW⟩:∃W,W=w3:=⟨_,rfl⟩
 rw[<-hW]at aV aS aO cC⊢
 clear hW
 have bY:=C3t (λV (a:A8 B0 W B0 V)=>bZ.out e1 V (aV.out.step a))
 have aM:=C3t (show A8 B0 W B0 W.drew from(A8.refl _ _).drew)
 have aA:=C3t (show∀V,A8 B0 W B0 V->V.cell? ⟨J,0,none⟩=some (.int .i64 (n:Int))/\V.cell? ⟨J,1,none⟩=some (.int .i64 g)fromλV a=>⟨(aO.out.over a).cell 0,(aO.out.over a).cell 1⟩)
 have aB:=C3t (aA.out _ aM.out)
 go_cut [7,8] (λt7 t8 W9=>C1M W X fe t7 t8 W9)
 case first=>
  refine E6 (S:=(λw'=>w'.cell? ⟨J,0,none⟩=some (.int .i64 (n:Int))/\w'.cell? ⟨J,1,none⟩=some (.int .i64 g))) (by with_reducible first|exact aE.out|exact aD.out|exact aC.out|exact aB.out) (λhH=>?_)
  refine C3y 0 rfl ?_
  refine C3y 1 rfl ?_
  refine C3y 2 rfl ?_
  refine C3y 3 rfl ?_
  refine C3z 4 8 rfl rfl (λK hK=>?_) (λK hK=>?_)
  ·go_simp
   refine(bY.out _ aM.out).mono ?_
   rintro r w5 ⟨rfl,a5⟩
   have aG:=C3t (aM.out.trans a5)
   have aC:=C3t (aA.out _ aG.out)
   clear a5
   go_wp2_with fail
   refine C3w hK (by with_reducible first|exact aE.out|exact aD.out|exact aC.out|exact aB.out) ?_
   clear hK K hH
   intro hH
   try simp only[Act.put,sA,sB,sC]
   refine C3y 5 rfl ?_
   refine C3y 6 rfl ?_
   refine C3y 7 rfl ?_
   refine C3v 8 rfl (λK hK=>?_)
   refine Y8 rfl rfl C6 (λz8 w8 hz Y I=>?_)
   have aN:=C3t (Nat.le_trans aG.out.size hz)
   have aT:=C3t (Y)
   have aH:=C3t (aG.out.trans I)
   have aD:=C3t (aA.out _ aH.out)
   clear hz Y I
   refine C3w hK (by with_reducible first|exact aE.out|exact aD.out|exact aC.out|exact aB.out) ?_
   clear hK K hH
   intro hH
   try simp only[Act.put,sA,sB,sC]
   refine C3v 9 rfl (λK hK=>?_)
   refine Y9 rfl _ _ rfl z8 aT.out rfl rfl B7 (C2 _) (C2 _) (D7 _) (λw9 Y I=>?_)
   have aJ:=C3t (Y)
   have aI:=C3t (aH.out.fresh aN.out I)
   have aE:=C3t (aA.out _ aI.out)
   clear Y I
   refine C3w hK (by with_reducible first|exact aE.out|exact aD.out|exact aC.out|exact aB.out) ?_
   clear hK K hH
   intro hH
   try simp only[Act.put]
   refine C3y 10 rfl ?_
   refine wpAnyH_done (by kernel_rfl) ?_ _
   go_wp2_with fail
   go_meet
   exact⟨z8,rfl,rfl,aJ.out,aN.out,aI.out⟩
  ·refine Y8 rfl rfl C6 (λz8 w8 hz Y I=>?_)
   have aN:=C3t (Nat.le_trans aM.out.size hz)
   have aT:=C3t (Y)
   have aH:=C3t (aM.out.trans I)
   have aD:=C3t (aA.out _ aH.out)
   clear hz Y I
   refine C3w hK (by with_reducible first|exact aE.out|exact aD.out|exact aC.out|exact aB.out) ?_
   clear hK K hH
   intro hH
   try simp only[Act.put,sA,sB,sC]
   refine C3v 4 rfl (λK hK=>?_)
   go_simp
   refine(bY.out _ aH.out).mono ?_
   rintro r w5 ⟨rfl,a5⟩
   have aG:=C3t (aH.out.trans a5)
   have cN:=C3t (aT.out.over a5)
   have aC:=C3t (aA.out _ aG.out)
   clear a5
   go_wp2_with fail
   refine C3w hK (by with_reducible first|exact aE.out|exact aD.out|exact aC.out|exact aB.out) ?_
   clear hK K hH
   intro hH
   try simp only[Act.put,sA,sB,sC]
   refine C3y 5 rfl ?_
   refine C3y 6 rfl ?_
   refine C3y 7 rfl ?_
   refine C3v 9 rfl (λK hK=>?_)
   refine Y9 rfl _ _ rfl z8 cN.out rfl rfl B7 (C2 _) (C2 _) (D7 _) (λw9 Y I=>?_)
   have aJ:=C3t (Y)
   have aI:=C3t (aG.out.fresh aN.out I)
   have aE:=C3t (aA.out _ aI.out)
   clear Y I
   refine C3w hK (by with_reducible first|exact aE.out|exact aD.out|exact aC.out|exact aB.out) ?_
   clear hK K hH
   intro hH
   try simp only[Act.put]
   refine C3y 10 rfl ?_
   refine wpAnyH_done (by kernel_rfl) ?_ _
   go_wp2_with fail
   go_meet
   exact⟨z8,rfl,rfl,aJ.out,aN.out,aI.out⟩
 case rest=>
 obtain⟨z8,rfl,rfl,cD,cJ,aL⟩:=hcut
 have aJ:=C3t cD
 have aI:=C3t aL
 have bS:=C3t (aO.out.over aL)
 have cR:=C3t (aV.out.step aL)
 have cM:=C3t (aS.out.over aL)
 have cX:=C3t (cC.out.later (aL.same (G:=CF c m) (λ_ x=>x.elim)))
 have bG:=C3t (Nat.le_trans aS.out.size cJ)
 clear cD cJ aL aB aA
 go_upto_region 5 with(first
  |(go_at_call 101;refine(cU.out _ cR.out).mono ?_;rintro r bP ⟨rfl,Z,I⟩;have cP:=C3t Z;have cK:=C3t (cM.out.trans I);have aW:=C3t (bS.out.keep (I.block J bS.out.lt (λU=>aF.out J aQ.out J U rfl)));have bD:=C3t (aJ.out.keep (I.block z8 aJ.out.lt (λU=>aF.out z8 bG.out z8 U rfl)));have cW:=C3t (cX.out.later I);clear Z I)
  |fail)
 have aY:=C3t (show∀V,C0 V J 35 #[.int .i64 (n:Int),.int .i64 g]->C0 V z8 62 (ic X)->V.cell? ⟨J,0,none⟩=some (.int .i64 (n:Int))/\C0 V z8 62 (ic X)fromλV a b=>⟨a.cell 0,b⟩)
 have bA:=C3t (aY.out bP.drew aW.out bD.out)
 have cT:=C3t (cP.out.step ((A8.refl B0 bP).drew))
 refine E6 (S:=(λw'=>w'.cell? ⟨J,0,none⟩=some (.int .i64 (n:Int))/\C0 w' z8 62 (ic X))) (by with_reducible first|exact bC.out|exact bB.out|exact bA.out) (λhH=>?_)
 refine C3y 0 rfl ?_
 refine C3y 1 rfl ?_
 refine C3y 2 rfl ?_
 refine C3y 3 rfl ?_
 refine C31 4 (.agg (ic X)) rfl (A1o rfl (.tmp 8) rfl z8 rfl (λ_ h=>h.2) Tryz.underlying62 rfl B7 (C2 _)) ?_
 refine C3y 5 rfl ?_
 refine C3v 6 rfl (λK hK=>?_)
 go_simp
 refine(bV.out _ cT.out A2 n2 c2 cV.out (cW.out.later ((A8.refl (CF c m) bP).drew))).mono ?_
 rintro r cZ ⟨rfl,Z,I⟩
 have cQ:=C3t (Z)
 have cL:=C3t (cK.out.trans (A8.of_drew I))
 have aX:=C3t (aW.out.keep (I.block J aW.out.lt (λU=>aF.out J aQ.out J U rfl)))
 have bF:=C3t (bD.out.keep (I.block z8 bD.out.lt (λU=>aF.out z8 bG.out z8 U rfl)))
 have bB:=C3t (aY.out cZ aX.out bF.out)
 clear Z I
 go_wp2_with fail
 refine C3w hK (by with_reducible first|exact bC.out|exact bB.out|exact bA.out) ?_
 clear hK K hH
 intro hH
 try simp only[Act.put,sA,sB,sC]
 refine C3v 7 rfl (λK hK=>?_)
 go_simp
 refine(cB.out _ cQ.out).mono ?_
 rintro r dA ⟨rfl,Z,I⟩
 have bX:=C3t (And.intro Z (cL.out.trans I))
 have bC:=C3t (aY.out dA (aX.out.keep (I.block J aX.out.lt (λU=>aF.out J aQ.out J U rfl))) (bF.out.keep (I.block z8 bF.out.lt (λU=>aF.out z8 bG.out z8 U rfl))))
 clear Z I
 go_wp2_with fail
 refine C3w hK (by with_reducible first|exact bC.out|exact bB.out|exact bA.out) ?_
 clear hK K hH
 intro hH
 try simp only[Act.put,sA,sB,sC]
 refine wpAnyH_done (by kernel_rfl) ?_ _
 go_wp2_with fail
 exact bodyPost_end (results_none rfl _ _ _) rfl ⟨rfl,bX.out.1,bX.out.2⟩
end
end
end Go.Proofs.YtbefmjiclpobjaaGreat
