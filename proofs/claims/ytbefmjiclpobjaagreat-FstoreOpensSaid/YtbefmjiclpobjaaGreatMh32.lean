import Derived.Test.YtbefmjiclpobjaaGreatMh31
import Derived.Test.YtbefmjiclpobjaaGreatMh28
import Derived.Test.YtbefmjiclpobjaaGreatMh30
import Derived.Test.YtbefmjiclpobjaaGreatMh24
namespace Go.Proofs.YtbefmjiclpobjaaGreat
set_option maxHeartbeats 6400000
set_option maxRecDepth 3000
section
open Go.RowKit Go.Maps
section
variable {w w':World} {E:Ev} {k:Nat} {A A':As}
def A45(A:As)(M:Nat)(i g a:Int)(d:ByteArray):As×Nat×Int:=
 if 0<=a/\a<8 then
  if d.size<=64 then
   if ofA A i g 2=0 then
    if M<(A0v A i.toNat a.toNat d).use+42\/(A.n i.toNat).v=1099511627775 then(A,0,8)else(A0v A i.toNat a.toNat d,(A.n i.toNat).v+1,0)
   else(A,0,ofA A i g 2)
  else(A,0,5)
 else(A,0,2)
theorem B9h{n:Nat}(h:n<18446744073709551616):N7 (n:Int)=n:=by unfold N7;omega
theorem Sto.write(h:Sto w E k A)(hk:k<=127)(i g a:Int)(d:ByteArray):
 Calls Tryz.prog 35 #[.pointer (some ⟨E.o,0,none⟩),.agg #[.int .i64 i,.int .i64 g],.int .i64 a,.string d] w λr w'=>
  r= .returned (.tuple #[.int .u64 ((A45 A E.M i g a d).2.1:Int),.int .i64 (A45 A E.M i g a d).2.2])/\Aft w E k (A45 A E.M i g a d).1 w':=by
 have hE:A3l E.H i g a d=if 0<=a/\a<8 then(if d.size<=64 then ofA A i g 2 else 5)else 2:=by unfold A3l;rw[h.rq.ofk]
 have aA:A3l E.H i g a d=0->(0<=a/\a<8)/\d.size<=64/\ofA A i g 2=0:=λe=>by
  rw[hE]at e
  split at e
  ·rename_i a1
   split at e
   ·rename_i U;exact⟨a1,U,e⟩
   ·cases e
  ·cases e
 have hS:ofA A i g 2=0->A9Y E i g a.toNat d=B0i E.H E.M i.toNat g (C9 E.H i.toNat) a.toNat d/\(fileX E.H i g).v=(A.n i.toNat).v:=λe=>by
  obtain⟨J,_⟩:=A5W e
  obtain⟨r1,r2⟩:=A0C J
  unfold A9Y B0i ewS B13 A5R
  rw[h.rq.fileX J]
  exact⟨rfl,(h.rq.f _ r1 r2).2.2⟩
 refine(B8U h.so h.rq.sw i g a d (λe=>?_)).mono λr w' hr=>?_
 ·obtain⟨a1,U,V⟩:=aA e
  obtain⟨J,o2⟩:=A5W V
  rw[(hS V).1]
  refine h.lok (A':=A0v A i.toNat a.toNat d) hk ?_
  rcases h.rq.wri J o2 (j:=a.toNat) (by omega) U with I|⟨I,_⟩
  ·exact .inl I
  ·exact .inr I
 ·rcases hr with⟨X,Y,e3⟩|⟨X,Y,e3⟩
  ·have hv:A45 A E.M i g a d=(A,0,A3l E.H i g a d):=by
    rw[hE]at X⊢
    unfold A45
    by_cases c1:0<=a/\a<8
    ·rw[if_pos c1]at X⊢
     rw[if_pos c1]
     by_cases c2:d.size<=64
     ·rw[if_pos c2]at X⊢
      rw[if_pos c2,if_neg X]
     ·rw[if_neg c2,if_neg c2]
    ·rw[if_neg c1,if_neg c1]
   rw[hv]
   exact⟨Y,h.aft e3⟩
  ·obtain⟨a1,U,V⟩:=aA X
   obtain⟨J,o2⟩:=A5W V
   obtain⟨r1,r2⟩:=A0C J
   obtain⟨s1,s2⟩:=hS V
   have hv:A45 A E.M i g a d=if E.M<(A0v A i.toNat a.toNat d).use+42\/(A.n i.toNat).v=1099511627775 then(A,0,8)else(A0v A i.toNat a.toNat d,(A.n i.toNat).v+1,0):=by
    unfold A45
    rw[if_pos a1,if_pos U,if_pos V]
   rw[s1]at Y e3
   rcases h.rq.wri J o2 (j:=a.toNat) (by omega) U with I|⟨I,aB⟩
   ·obtain⟨b1,b2⟩:=h.done (A':=A0v A i.toNat a.toNat d) hk e3 (.inl ⟨I,h.tr.wri _ _ _⟩)
    have hD:((A0v A i.toNat a.toNat d).n i.toNat).v=(A.n i.toNat).v+1:=by unfold A0v;rw[As.up_at];rfl
    have aC:=(I.rp.ok i.toNat r1 r2).v
    have hn:¬(E.M<(A0v A i.toNat a.toNat d).use+42\/(A.n i.toNat).v=1099511627775):=by
     have h3:=I.rp.ow.cnt
     have h4:(A0v A i.toNat a.toNat d).use=V9 (A0v A i.toNat a.toNat d).R 40:=rfl
     omega
    rw[hv,if_neg hn]
    refine⟨?_,b1⟩
    rw[Y,b2,I.e]
    have:ewV (A5R E (fileX E.H i g) a.toNat d) 0=(A.n i.toNat).v+1:=by
     unfold ewV
     rw[if_pos rfl]
     show N7 (((fileX E.H i g).v:Int)+1)=_
     rw[s2]
     exact B9h (n:=(A.n i.toNat).v+1) (by omega)
    rw[this]
   ·obtain⟨b1,b2⟩:=h.done (A':=A) hk e3 (.inr ⟨I,rfl⟩)
    rw[hv,if_pos aB]
    refine⟨?_,b1⟩
    rw[Y,b2,I]
    rfl
theorem Sto.rdv(h:Sto w E k A):Rdv w E.o E.M E.H:=h.so.vu.rdv
open Classical in
def rbE(A:As)(i g a:Int):Int:=if 0<=a/\a<8 then ofA A i g 2 else 2
def rbT(A:As)(i g a:Int):ByteArray:=if rbE A i g a=0 then(A.n i.toNat).b a.toNat else⟨#[]⟩
def rbV(A:As)(i g a:Int):Nat:=if rbE A i g a=0 then(A.n i.toNat).v else 0
theorem C0N{s:ByteArray}(h:s.size=0):s=⟨#[]⟩:=by
 apply ByteArray.ext
 exact Array.eq_empty_of_size_eq_zero h
theorem Rq.data{H:Nat->List Nat}{M:Nat}(h:Rq H M A){i j:Nat}(hi:In8 i j)(Y:(A.n i).k=2):A0Y H ((C9 H i).a j)=0/\A2k H ((C9 H i).a j)=(A.n i).b j:=by
 have V:A.R i j=K9 ((A.n i).b j):=A4K Y j
 have J:=h.ow.nz i j hi
 have X:=(h.ok i hi.1 hi.2.1).b j
 rw[V]at J
 unfold A0Y A2k
 by_cases I:(C9 H i).a j=0
 ·rw[if_pos I,if_pos I]
  refine⟨rfl,?_⟩
  have:=J.1 I
  have U:((A.n i).b j).size=0:=by
   by_cases e:((A.n i).b j).size=0
   ·exact e
   ·have:=A0n (s:=(A.n i).b j) (by omega) (by omega)
    rw[J.1 I]at this
    cases this
  exact(C0N U).symm
 ·rw[if_neg I,if_neg I,show H ((C9 H i).a j).toNat=_ from(h.ow.at_ i j hi I).trans V]
  have U:0<((A.n i).b j).size:=by
   by_cases e:((A.n i).b j).size=0
   ·exact absurd (J.2 (if_pos e)) I
   ·omega
  obtain⟨d1,d2⟩:=B4q U X
  rw[d2,if_pos rfl,d1]
  exact⟨rfl,rfl⟩
theorem Sto.read(h:Sto w E k A)(i g a:Int):Calls Tryz.prog 34 #[.pointer (some ⟨E.o,0,none⟩),.agg #[.int .i64 i,.int .i64 g],.int .i64 a] w λe w'=>e= .returned (.tuple #[.string (rbT A i g a),.int .u64 (rbV A i g a:Int),.int .i64 (rbE A i g a)])/\A8 B0 w B0 w':=by
 have h1:=C0A h.rdv h.rq.sw.sd i g a
 have X:A10 E.H i g a=rbE A i g a:=by
  unfold A10 rbE
  rw[h.rq.ofk]
  by_cases c:0<=a/\a<8
  ·rw[if_pos c,if_pos c]
   by_cases o:ofA A i g 2=0
   ·obtain⟨I,V⟩:=A5W o
    obtain⟨J,U⟩:=A0C I
    rw[if_pos o,h.rq.fileX I,(h.rq.data (i:=i.toNat) (j:=a.toNat) ⟨J,U,by omega⟩ V).1,o]
   ·rw[if_neg o]
  ·rw[if_neg c,if_neg c]
 have Y:A3j E.H i g a=rbT A i g a/\A3k E.H i g a=rbV A i g a:=by
  unfold A3j A3k rbT rbV
  rw[X]
  by_cases c:rbE A i g a=0
  ·rw[if_pos c,if_pos c,if_pos c,if_pos c]
   unfold rbE at c
   split at c
   ·rename_i c1
    obtain⟨I,V⟩:=A5W c
    obtain⟨J,U⟩:=A0C I
    rw[h.rq.fileX I,(h.rq.data (i:=i.toNat) (j:=a.toNat) ⟨J,U,by omega⟩ V).2,(h.rq.f _ J U).2.2]
    exact⟨rfl,rfl⟩
   ·cases c
  ·rw[if_neg c,if_neg c,if_neg c,if_neg c]
   exact⟨rfl,rfl⟩
 rwa[X,Y.1,Y.2]at h1
end
end
section
open Go.RowKit Go.Maps
theorem A7v{ops:Array Oper}{rest:List Oper}{o:Oper}{a:Act}{w:World}{Q:Exit->Act->World->Prop}(J:o.guard=none)(V:o.op= .makeMap 86 none)
 (h:∀I w',w.heap.size<=I->(∀N,Mp w' I N (λ_=>none))->A8 B0 w B0 w'->wpList Tryz.prog ops Q rest (a.put o.dst (.map (some I))) w'):wpList Tryz.prog ops Q (o::rest) a w:=by
 refine wpList_plain J λK hK=>?_
 have U:=hK _ _ (h _ _ (Nat.le_refl _) (λN=>Mp.new w N) ((A8.refl B0 w).alloc (.map #[] 0)))
 unfold Oper.wp execOp
 simp only[V,Option.map_none]
 exact U
theorem B0n(l I:Nat):Tryz.prog.built 88 [(0,.pointer (some ⟨l,0,none⟩)),(1,.map (some I))]=some #[.pointer (some ⟨l,0,none⟩),.map (some I)]:=by kernel_rfl
theorem A3q{ops:Array Oper}{rest:List Oper}{o:Oper}{a:Act}{w:World}{Q:Exit->Act->World->Prop}(J:o.guard=none)(x y:Operand)(U:o.op= .build 88 #[(0,x),(1,y)])(l I:Nat)(V:a.eval x= .pointer (some ⟨l,0,none⟩))(X:a.eval y= .map (some I))
 (h:wpList Tryz.prog ops Q rest (a.put o.dst (.agg #[.pointer (some ⟨l,0,none⟩),.map (some I)])) w):wpList Tryz.prog ops Q (o::rest) a w:=by
 have e:((#[(0,x),(1,y)]:Array (Nat×Operand)).map λ(i,x)=>(i,a.eval x)).toList=[(0,.pointer (some ⟨l,0,none⟩)),(1,.map (some I))]:=by simp[V,X]
 refine wpList_build J 88 _ U (by rw[e,B0n l I];rfl) ?_
 rw[e,B0n l I]
 exact h
def D2(F:Nat->Prop)(d l b n N:Nat)(s:DS)(o I:Nat):Ev:=⟨F,d,l,b,n,N,s,H7 s n N,o,I,λ_=>none⟩
structure OpB (w:World) (l b o mo:Nat):Prop where
 l:w.heap.size<=l
 b:w.heap.size<=b
 o:w.heap.size<=o
 mo:w.heap.size<=mo
theorem B3c{H:Nat->List Nat}{M:Nat}(h:A2o H M=0):A0s (H 1) (M:Int)/\∀j,j<40->eI (H (2+j))=0:=by
 unfold A2o at h
 have I:A3o H M=0:=by
  by_cases e:A3o H M=0
  ·exact e
  ·rw[if_neg e]at h;exact absurd h e
 rw[if_pos I]at h
 refine⟨?_,λj J=>?_⟩
 ·unfold A3o at I
  split at I
  ·assumption
  ·cases I
 ·unfold A5Y at h
  split at h
  ·rename_i i hi
   have:=List.find?_some hi
   exact absurd h (by simpa using this)
  ·rename_i hi
   have:=List.find?_eq_none.1 hi j (List.mem_range.2 J)
   simpa using this
section
variable {w:World} {F:Nat->Prop} {d n N:Nat} {s:DS}
theorem So.open_{J w2 w3:World}{l b o I:Nat}(hw:A8 B0 w B0 J)(V:Rs J F d l b n N s (H7 s n N))(aA:w.heap.size<=l/\w.heap.size<=b)(hn:20<=n/\n+48<=N/\N<=n+1026/\N<=1100)(aC:AOk (N-2-n) (H7 s n N).A)
 (h2:J.heap.size<=I) (hm:∀M,Mp w2 I M (λ_=>none)) (X:A8 B0 J B0 w2) (h3:w2.heap.size<=o) (U:C0 w3 o 88 #[.pointer (some ⟨l,0,none⟩),.map (some I)]) (Y:A8 B0 w2 B0 w3):So w3 (D2 F d l b n N s o I)/\OpB w l b o I:=by
 have hu:∀k,UF F l b k->k<J.heap.size:=V.bd
 have aB:=(hm (N-2-n)).lt
 have:=X.size
 have:=hw.size
 refine⟨⟨⟨⟨V.dk.far (X.trans Y) (λ_ x _=>x),V.lg.far (X.trans Y) (λ_ x _=>x),V.sep⟩,⟨hn.1,hn.2.1,hn.2.2.1,by show N<=4096;omega⟩,aC,U.cell 0,U.cell 1,U.lt,(hm _).keep (Y.block _ aB (λx=>x)),AOk.none _⟩,U,λx=>?_,λx=>?_⟩,aA.1,aA.2,by omega,by omega⟩
 ·have:=hu o x
  omega
 ·have:=hu I x
  omega
theorem B7r(n:Int)(h:Dk w F d N s)(hN:1<=N/\N<=1100)(X: -9223372036854775808<=n/\n<9223372036854775808)(V:¬(20<=n/\n+48<=(N:Int)/\(N:Int)<=n+1026)):
 Calls Tryz.prog 11 #[.pointer (some ⟨d,0,none⟩),.int .i64 n] w λe w'=>e= .returned (.tuple #[.pointer none,.int .i64 2])/\A8 B0 w B0 w':=by
 have U:=C3t (A1H d N F s w h)
 have aB:(1:Int)<=N:=by omega
 have aC:(N:Int)<=1100:=by omega
 have aA:((N:Int)==0)=false:=by rw[beq_eq_false_iff_ne];omega
 clear h hN
 by_cases I:n<20
 ·have Y:(n<20)=True:=eq_true I
  clear V I X
  go_enter Tryz.func11,Tryz.ntmps11
  go_wp2_with (first
   |(go_at_call 41;refine U.out.mono ?_;rintro e w1 ⟨rfl,rfl⟩)
   |fail)
  go_ret2
  exact⟨rfl,A8.refl _ _⟩
 ·have aD:20<=n:=by omega
  have hw:IntKind.i64.wrap ((N:Int)-2-n)=(N:Int)-2-n:=by rw[IntKind.wrap_i64];omega
  by_cases J:(N:Int)-2-n<46
  ·have Y:(n<20)=False:=eq_false I
   have e2:((N:Int)-2-n<46)=True:=eq_true J
   clear V I X J
   go_enter Tryz.func11,Tryz.ntmps11
   go_wp2_with (first
    |(go_at_call 41;refine U.out.mono ?_;rintro e w1 ⟨rfl,rfl⟩)
    |fail)
   go_ret2
   exact⟨rfl,A8.refl _ _⟩
  ·have Y:(n<20)=False:=eq_false I
   have e2:((N:Int)-2-n<46)=False:=eq_false J
   have e3:(1024<(N:Int)-2-n)=True:=eq_true (by omega)
   clear V I X J
   go_enter Tryz.func11,Tryz.ntmps11
   go_wp2_with (first
    |(go_at_call 41;refine U.out.mono ?_;rintro e w1 ⟨rfl,rfl⟩)
    |fail)
   go_ret2
   exact⟨rfl,A8.refl _ _⟩
theorem B7s(n:Int)(w:World):Calls Tryz.prog 11 #[.pointer none,.int .i64 n] w λe w'=>e= .returned (.tuple #[.pointer none,.int .i64 1])/\A8 B0 w B0 w':=by
 have I:=C3t (B8L (.pointer none) w (.inl rfl))
 go_enter Tryz.func11,Tryz.ntmps11
 go_wp2_with (first
  |(go_at_call 41;refine I.out.mono ?_;rintro e J ⟨rfl,rfl⟩)
  |fail)
 go_ret2
 exact⟨rfl,A8.refl _ _⟩
theorem C1b(h:Dk w F d N s)(aR:SB s N)(hn:20<=n/\n+48<=N/\N<=n+1026/\N<=1100)(bG:A0A s (2+n)<16777215)(aQ:AOk (N-2-n) (H7 s n N).A)(hx:Sx (D3 s n (H7 s n N)) (N-2-n))(aD:A2o (D3 s n (H7 s n N)) (N-2-n)=0)(hk:(C9 (D3 s n (H7 s n N)) 1).k≠0):
 Calls Tryz.prog 11 #[.pointer (some ⟨d,0,none⟩),.int .i64 (n:Int)] w λe w'=>∃l b o J,e= .returned (.tuple #[.pointer (some ⟨o,0,none⟩),.int .i64 0])/\So w' (D2 F d l b n N s o J)/\OpB w l b o J/\A8 B0 w B0 w':=by
 have aZ:=C3t hn
 have bA:=C3t aQ
 have aO:=C3t (A1H d N F s w h)
 have aL:=C3t ((A9V d N F s (n:Int) w h aR (by omega) (by omega) (by omega)).mono (R':=λe w'=>∃l b,e= .returned (.tuple #[.pointer (some ⟨l,0,none⟩),.int .i64 0])/\Rs w' F d l b n N s (H7 s n N)/\(w.heap.size<=l/\w.heap.size<=b)/\A8 B0 w B0 w') λe w' ho=>by
  rcases ho with⟨x,_⟩|⟨_,x,_⟩|⟨_,_,l,b,e1,e2,e3,e4⟩
  ·exact absurd (by omega) x
  ·rw[Int.toNat_natCast]at x;omega
  ·exact⟨l,b,e1,by rwa[Int.toNat_natCast]at e2,e3,e4⟩)
 have aH:=C3t (λV l b o J (so:So V (D2 F d l b n N s o J))=>show Calls Tryz.prog 42 #[.pointer (some ⟨o,0,none⟩)] V λe w'=>e= .returned (.int .i64 0)/\A8 B0 V B0 w' from by
  have:=A7l (p:=o) so.vu.rdv (show Sx (vwH (λ_=>none) (D3 s n (H7 s n N))) (N-2-n)from hx)
  rwa[show A2o (vwH (D2 F d l b n N s o J).O (D3 (D2 F d l b n N s o J).s (D2 F d l b n N s o J).n (D2 F d l b n N s o J).g)) ((D2 F d l b n N s o J).N-2-(D2 F d l b n N s o J).n)=0 from aD]at this)
 obtain⟨kk,aA⟩:∃kk,kk=(C9 (D3 s n (H7 s n N)) 1).k:=⟨_,rfl⟩
 obtain⟨X,hX⟩:∃X,X=C9 (D3 s n (H7 s n N)) 1:=⟨_,rfl⟩
 have aG:=C3t (λV l b o J (so:So V (D2 F d l b n N s o J))=>show Calls Tryz.prog 43 #[.pointer (some ⟨o,0,none⟩),.int .i64 1] V λe w'=>e= .returned (.tuple #[.agg (ic X),.int .i64 0])/\A8 B0 V B0 w' from by
  have h1:=A8r (p:=o) so.vu.rdv (show Sx (vwH (λ_=>none) (D3 s n (H7 s n N))) (N-2-n)from hx) 1 (by decide)
  have h2:eI (D3 s n (H7 s n N) (1+1))=0:=(B3c aD).2 0 (by decide)
  unfold A7Z at h1
  refine h1.mono λe w' he=>?_
  obtain⟨e1,e2⟩:=he
  refine⟨?_,e2⟩
  rw[e1,hX]
  show Ending.returned (.tuple #[.agg (ic (C9 (D3 s n (H7 s n N)) 1)),.int .i64 (eI (D3 s n (H7 s n N) (1+1)))])=_
  rw[h2])
 have bD:=C3t (show X.k=kk by rw[hX,aA])
 have bH:=C3t aA
 have bJ:(1:Int)<=N:=by omega
 have bK:(N:Int)<=1100:=by omega
 have bQ:(20:Int)<=n:=by omega
 have bP:(n:Int)<=1100:=by omega
 have bI:((N:Int)==0)=false:=by rw[beq_eq_false_iff_ne];omega
 have e1:((n:Int)<20)=False:=eq_false (by omega)
 have e2:((N:Int)-2-n<46)=False:=eq_false (by omega)
 have e3:(1024<(N:Int)-2-n)=False:=eq_false (by omega)
 have bM:∀w:World,(Instr.field 35 (.agg #[.int .i64 1,.int .i64 1]) 0).run Tryz.prog w= .ok (.int .i64 1) w:=λ_=>by kernel_rfl
 have bO:(kk==0)=false:=by rw[beq_eq_false_iff_ne,aA];exact hk
 clear h aR hn bG aQ hx aD hk aA hX
 go_enter Tryz.func11,Tryz.ntmps11
 go_wp2_with (first
  |(go_at_call 41;refine aO.out.mono ?_;rintro e w0 ⟨rfl,rfl⟩)
  |(go_at_call 22;refine aL.out.mono ?_;rintro e w1 ⟨l,b,rfl,rs,aP,I⟩;have aM:=C3t rs;have aI:=C3t aP;have aE:=C3t I;clear rs aP I aL aO)
  |(refine A7v rfl rfl ?_;intro J w2 Y hm I;have aK:=C3t Y;have aJ:=C3t hm;have aF:=C3t I;clear Y hm I)
  |(refine A3q rfl _ _ rfl l J rfl rfl ?_)
  |(refine C4 (t:=88) rfl _ rfl rfl ?_;intro o w3 Y U I;have aB:=C3t (So.open_ aE.out aM.out aI.out aZ.out bA.out aK.out aJ.out aF.out Y U I);have aS:=C3t ((aE.out.trans aF.out).trans I);clear Y U I aM aI aK aJ)
  |(go_at_call 42;refine(aH.out _ _ _ _ _ aB.out.1).mono ?_;rintro e w4 ⟨rfl,I⟩;have aN:=C3t (aB.out.1.step I);have aT:=C3t (aS.out.trans I);clear I aH)
  |(go_at_call 32;refine(A14 _).mono ?_;rintro e w5 ⟨rfl,I⟩;have aC:=C3t (aN.out.step I);have aU:=C3t (aT.out.trans I);clear I aN)
  |(go_at_call 43;refine(aG.out _ _ _ _ _ aC.out).mono ?_;rintro e w6 ⟨rfl,I⟩;have bB:=C3t (aC.out.step I);have aV:=C3t (aU.out.trans I);clear I aC aG)
  |(refine B6 rfl rfl C6 ?_;intro z7 w7 Y U I;have bF:=C3t Y;have aY:=C3t U;have aW:=C3t I;clear Y U I)
  |(refine B5 rfl _ _ rfl z7 aY.out rfl rfl B7 (C2 _) (C2 _) (D7 _) ?_;intro w8 U I;have hA:=aW.out.fresh bF.out I;have bC:=C3t (bB.out.step hA);have aX:=C3t (aV.out.trans hA);have c8:w8.cell? ⟨z7,0,none⟩=some (.int .i64 kk):=(by rw[U.cell,<-bD.out];rfl);clear U I hA)
  |fail)
 go_ret2
 exact⟨l,b,o,J,rfl,bC.out,aB.out.2,aX.out⟩
theorem B7t(h:Dk w F d N s)(aV:SB s N)(hn:20<=n/\n+48<=N/\N<=n+1026/\N<=1100)(bQ:A0A s (2+n)<16777215)(aU:AOk (N-2-n) (H7 s n N).A)(hx:Sx (D3 s n (H7 s n N)) (N-2-n))(aD:A2o (D3 s n (H7 s n N)) (N-2-n)=0)(hk:(C9 (D3 s n (H7 s n N)) 1).k=0)
 (hl:∀l b o I,LOk (D2 F d l b n N s o I) ((⟨(D2 F d l b n N s o I).H,0⟩:CS).begin (D2 F d l b n N s o I).M)/\(T1 (D2 F d l b n N s o I) ((⟨(D2 F d l b n N s o I).H,0⟩:CS).begin (D2 F d l b n N s o I).M)).2=0):
 Calls Tryz.prog 11 #[.pointer (some ⟨d,0,none⟩),.int .i64 (n:Int)] w λe w'=>∃l b o I w1,e= .returned (.tuple #[.pointer (some ⟨o,0,none⟩),.int .i64 0])/\So w1 (D2 F d l b n N s o I)/\OpB w l b o I/\A8 B0 w B0 w1/\OdR w1 (D2 F d l b n N s o I) (T1 (D2 F d l b n N s o I) ((⟨(D2 F d l b n N s o I).H,0⟩:CS).begin (D2 F d l b n N s o I).M)) w':=by
 have bI:=C3t hn
 have bJ:=C3t aU
 have aR:=C3t (A1H d N F s w h)
 have aN:=C3t ((A9V d N F s (n:Int) w h aV (by omega) (by omega) (by omega)).mono (R':=λe w'=>∃l b,e= .returned (.tuple #[.pointer (some ⟨l,0,none⟩),.int .i64 0])/\Rs w' F d l b n N s (H7 s n N)/\(w.heap.size<=l/\w.heap.size<=b)/\A8 B0 w B0 w') λe w' ho=>by
  rcases ho with⟨x,_⟩|⟨_,x,_⟩|⟨_,_,l,b,e1,e2,e3,e4⟩
  ·exact absurd (by omega) x
  ·rw[Int.toNat_natCast]at x;omega
  ·exact⟨l,b,e1,by rwa[Int.toNat_natCast]at e2,e3,e4⟩)
 have aJ:=C3t (λV l b o I (so:So V (D2 F d l b n N s o I))=>show Calls Tryz.prog 42 #[.pointer (some ⟨o,0,none⟩)] V λe w'=>e= .returned (.int .i64 0)/\A8 B0 V B0 w' from by
  have:=A7l (p:=o) so.vu.rdv (show Sx (vwH (λ_=>none) (D3 s n (H7 s n N))) (N-2-n)from hx)
  rwa[show A2o (vwH (D2 F d l b n N s o I).O (D3 (D2 F d l b n N s o I).s (D2 F d l b n N s o I).n (D2 F d l b n N s o I).g)) ((D2 F d l b n N s o I).N-2-(D2 F d l b n N s o I).n)=0 from aD]at this)
 obtain⟨kk,aA⟩:∃kk,kk=(C9 (D3 s n (H7 s n N)) 1).k:=⟨_,rfl⟩
 obtain⟨X,hX⟩:∃X,X=C9 (D3 s n (H7 s n N)) 1:=⟨_,rfl⟩
 have aI:=C3t (λV l b o I (so:So V (D2 F d l b n N s o I))=>show Calls Tryz.prog 43 #[.pointer (some ⟨o,0,none⟩),.int .i64 1] V λe w'=>e= .returned (.tuple #[.agg (ic X),.int .i64 0])/\A8 B0 V B0 w' from by
  have h1:=A8r (p:=o) so.vu.rdv (show Sx (vwH (λ_=>none) (D3 s n (H7 s n N))) (N-2-n)from hx) 1 (by decide)
  have h2:eI (D3 s n (H7 s n N) (1+1))=0:=(B3c aD).2 0 (by decide)
  unfold A7Z at h1
  refine h1.mono λe w' he=>?_
  obtain⟨e1,e2⟩:=he
  refine⟨?_,e2⟩
  rw[e1,hX]
  show Ending.returned (.tuple #[.agg (ic (C9 (D3 s n (H7 s n N)) 1)),.int .i64 (eI (D3 s n (H7 s n N) (1+1)))])=_
  rw[h2])
 have bM:=C3t (show X.k=kk by rw[hX,aA])
 have bR:=C3t aA
 have bT:(1:Int)<=N:=by omega
 have bU:(N:Int)<=1100:=by omega
 have bY:(20:Int)<=n:=by omega
 have bX:(n:Int)<=1100:=by omega
 have bS:((N:Int)==0)=false:=by rw[beq_eq_false_iff_ne];omega
 have e1:((n:Int)<20)=False:=eq_false (by omega)
 have e2:((N:Int)-2-n<46)=False:=eq_false (by omega)
 have e3:(1024<(N:Int)-2-n)=False:=eq_false (by omega)
 have bV:∀w:World,(Instr.field 35 (.agg #[.int .i64 1,.int .i64 1]) 0).run Tryz.prog w= .ok (.int .i64 1) w:=λ_=>by kernel_rfl
 have bP:kk=0:=by rw[aA];exact hk
 have HX:=C3t hx
 have HL:=C3t hl
 have aG:=C3t (λV l b o I c m (k:Cg V (D2 F d l b n N s o I) c m (D2 F d l b n N s o I).H 0)=>B9c k (show 46<=N-2-n/\N-2-n<=1024 by omega))
 have aH:=C3t (λV l b o I c m (k:Cs V (D2 F d l b n N s o I) c m ((⟨(D2 F d l b n N s o I).H,0⟩:CS).begin (D2 F d l b n N s o I).M))=>B6S k HX.out.row (HL.out l b o I).1)
 subst bP
 clear h aV hn bQ aU hx aD hk aA hX hl
 go_enter Tryz.func11,Tryz.ntmps11
 go_wp2_with (first
  |(go_at_call 41;refine aR.out.mono ?_;rintro e w0 ⟨rfl,rfl⟩)
  |(go_at_call 22;refine aN.out.mono ?_;rintro e w1 ⟨l,b,rfl,rs,aT,J⟩;have aO:=C3t rs;have aK:=C3t aT;have aE:=C3t J;clear rs aT J aN aR)
  |(refine A7v rfl rfl ?_;intro I w2 Y hm J;have aM:=C3t Y;have aL:=C3t hm;have aF:=C3t J;clear Y hm J)
  |(refine A3q rfl _ _ rfl l I rfl rfl ?_)
  |(refine C4 (t:=88) rfl _ rfl rfl ?_;intro o w3 Y U J;have aB:=C3t (So.open_ aE.out aO.out aK.out bI.out bJ.out aM.out aL.out aF.out Y U J);have aX:=C3t ((aE.out.trans aF.out).trans J);clear Y U J aO aK aM aL)
  |(go_at_call 42;refine(aJ.out _ _ _ _ _ aB.out.1).mono ?_;rintro e w4 ⟨rfl,J⟩;have aP:=C3t (aB.out.1.step J);have aY:=C3t (aX.out.trans J);clear J aJ)
  |(go_at_call 32;refine(A14 _).mono ?_;rintro e w5 ⟨rfl,J⟩;have aC:=C3t (aP.out.step J);have aZ:=C3t (aY.out.trans J);clear J aP)
  |(go_at_call 43;refine(aI.out _ _ _ _ _ aC.out).mono ?_;rintro e w6 ⟨rfl,J⟩;have bK:=C3t (aC.out.step J);have bA:=C3t (aZ.out.trans J);clear J aC aI)
  |(refine B6 rfl rfl C6 ?_;intro z7 w7 Y U J;have bO:=C3t Y;have bF:=C3t U;have bB:=C3t J;clear Y U J)
  |(refine B5 rfl _ _ rfl z7 bF.out rfl rfl B7 (C2 _) (C2 _) (D7 _) ?_;intro w8 U J;have hA:=bB.out.fresh bO.out J;have aQ:=C3t (bK.out.step hA);have bC:=C3t (bA.out.trans hA);have c8:w8.cell? ⟨z7,0,none⟩=some (.int .i64 (0:Int)):=(by rw[U.cell,<-bM.out];rfl);clear U J hA)
  |(go_at_call 44;refine(A5N aQ.out).mono ?_;rintro e w9 ⟨c,m,rfl,hc,h1,h2,J⟩;have bH:=C3t hc;have aS:=C3t (And.intro h1 h2);have bD:=C3t J;clear hc h1 h2 J c8)
  |(go_at_call 45;refine(aG.out _ _ _ _ _ _ _ bH.out).mono ?_;rintro e bZ ⟨rfl,hc,J⟩;have bG:=C3t hc;have aW:=C3t J;clear hc J aG)
  |(go_at_call 46;refine(aH.out _ _ _ _ _ _ _ bG.out).mono ?_;rintro e cA he;obtain⟨e5,ho⟩:=he.op bD.out aS.out.1 aS.out.2 aW.out;rw[(HL.out l b o I).2]at e5;subst e5;have HO:=C3t ho;clear he ho aH)
  |fail)
 go_ret2
 exact⟨l,b,o,I,w8,rfl,aQ.out,aB.out.2,bC.out,HO.out⟩
end
end
section
open Go.RowKit Go.Maps
def A0:As:=⟨λi=>if i=1 then⟨1,1,0,noB,[]⟩else Nd.gone 0,nou⟩
theorem C26:∀k,be k 0=List.replicate k 0
 |0=>rfl
 |k+1=>by
  have:=A0R 0 0 (k+1)
  simpa[be]using this
theorem B3d:∀j,nJ J3 j=0
 |0=>by decide
 |j+1=>by
  show nJ J3 j * 2^12+N7 (J3.a j)=0
  rw[B3d j]
  rfl
theorem B0o:WfI J3:=⟨by decide,by decide,by decide,λj _=>by show -9223372036854775808<=(0:Int)/\(0:Int)<9223372036854775808;decide⟩
theorem B4B:secI J3=nou:=by
 unfold secI nou
 rw[B3d 8,Nat.zero_mul,C26]
theorem B7u:okI J3:=(B2y B0o).1 ⟨λj _=>⟨Int.le_refl 0,(by decide:(0:Int)<=4095)⟩,by decide,by decide,by decide,by decide,by decide,.inr ⟨rfl,λ_ _=>rfl⟩⟩
theorem A6d:∃y,A0t nou=some y/\EqI y J3:=by
 have:=A3C B0o B7u
 rwa[B4B]at this
theorem B3e:nou.length=128/\∀x∈nou,x<256:=⟨List.length_replicate,λx I=>by rw[List.eq_of_mem_replicate I];decide⟩
theorem B3f(M:Nat):Rep nou (List.replicate M false):=Rep.zero M
theorem A7w(M:Nat)(I:M<=1024):∀j,j<=M->∃r,Rep r (P6 M j)
 |0,_=>⟨nou,by rw[A7n];exact B3f M⟩
 |j+1,h=>by
  obtain⟨r,J⟩:=A7w M I j (by omega)
  exact⟨_,J.put (i:=j) (by rw[Q1];omega) (by rw[Q1];exact I)⟩
theorem A6e(M:Nat):∀j,j<=M->Z6 (P6 M j)+j=M
 |0,_=>by
  show(List.replicate M false).count false+0=M
  rw[List.count_replicate_self,Nat.add_zero]
 |j+1,h=>by
  have J:=A6e M j (by omega)
  have:=A5S (T:=P6 M j) (k:=j) true (by rw[Q1];omega)
  have I:(P6 M j).getD j false=false:=by rw[A13 M j j (by omega)];exact decide_eq_false (by omega)
  rw[I]at this
  have e:Z6 (P6 M (j+1))=Z6 ((P6 M j).set j true):=rfl
  rw[e]
  simp at this
  omega
section
variable {M:Nat}
theorem B9i(I:46<=M/\M<=1024):Sx (λ_=>nou) M:=⟨I,λ_ _=>B3e⟩
theorem B4C(I:46<=M/\M<=1024):A0s nou (M:Int):=(A28 (B3f M) List.length_replicate (by omega) I.2).1
theorem B9j{H H':Nat->List Nat}(h:Sx H M)(I:∀k,k<M->H' k=H k):Sx H' M:=⟨h.hM,λi hi=>by rw[I i hi];exact h.row i hi⟩
theorem B4D(J:46<=M/\M<=1024){H:Nat->List Nat}(I:∀k,k<M->H k=nou):A2o H M=0:=by
 obtain⟨y,U,_⟩:=A6d
 unfold A2o A3o
 rw[I 1 (by omega),if_pos (B4C J),if_pos rfl]
 exact A5Z λi hi=>by rw[I (2+i) (by omega)];unfold eI;rw[U];rfl
theorem B0p(V:46<=M){H:Nat->List Nat}(I:∀k,k<M->H k=nou){i:Nat}(hi:i<=40):EqI (C9 H i) J3:=by
 obtain⟨y,J,U⟩:=A6d
 have:C9 H i=y:=by unfold C9 dI;rw[I (1+i) (by omega),J];rfl
 rw[this]
 exact U
theorem A6f:∀n,V9 (λ_ _=>[]) n=0
 |0=>rfl
 |n+1=>by
  show V9 (λ_ _=>[]) n+Q6 (λ_=>[]) 8=0
  rw[A6f n]
  rfl
theorem B7v(V:46<=M/\M<=1024){H:Nat->List Nat}(X:∀k,k<M->H k=nou):ChD H M ((⟨H,0⟩:CS).begin M) A0:=by
 obtain⟨r,Y⟩:=A7w M V.2 42 (by omega)
 have aB:=Q1 M 42
 obtain⟨o1,o2⟩:=A28 Y aB (by omega) V.2
 have aC:mapB (P6 M 42)=r:=Y.mapB
 have es:(⟨H,0⟩:CS).begin M=(⟨M4 H 1 r,0⟩:CS).set 1 B0h:=by
  unfold CS.begin CS.put A0u
  rw[aC]
  rfl
 have I:∀i,1<=i->i<=40->EqI (C9 (M4 H 1 r) i) J3:=λi U J=>by
  have:C9 (M4 H 1 r) i=C9 H i:=by unfold C9;rw[E7 _ _ (by omega)]
  rw[this]
  exact B0p V.1 X J
 have aA:C8 (M4 H 1 r) M=P6 M 42:=by unfold C8;rw[V7];exact o2
 have aD:Rq (M4 H 1 r) M ⟨λ_=>Nd.gone 0,nou⟩:=by
  refine⟨⟨⟨V,λi hi=>?_,by rw[V7];exact o1,λi U J=>?_⟩,λk hk=>?_⟩,λi U J=>⟨(I i U J).k,(I i U J).g,(I i U J).v⟩,⟨λi j hi=>.inl ((I i hi.1 hi.2.1).a j hi.2.2),λi j hi=>⟨λ_=>rfl,λ_=>(I i hi.1 hi.2.1).a j hi.2.2⟩,λi j hi hn=>absurd ((I i hi.1 hi.2.1).a j hi.2.2) hn,λi j i' j' hi aE hn _=>absurd ((I i hi.1 hi.2.1).a j hi.2.2) hn,λk U J=>?_,?_⟩,λi _ _=>OkN.gone (by decide),?_⟩
  ·by_cases e:i=1
   ·rw[e,V7];exact⟨Y.len,Y.lt⟩
   ·rw[E7 _ _ e,X i hi];exact B3e
  ·rw[E7 _ _ (by omega),X (1+i) (by omega)]
   obtain⟨y,hy,hz⟩:=A6d
   exact⟨y,hy,λj hj=>.inl (hz.a j hj)⟩
  ·rw[aA,A13 M 42 k (by omega)]
   exact decide_eq_true hk
  ·rw[aA,A13 M 42 k (by omega)]
   constructor
   ·intro x;have:=of_decide_eq_true x;omega
   ·rintro⟨i,j,hi,e⟩
    have e2:=(I i hi.1 hi.2.1).a j hi.2.2
    have e3:(C9 (M4 H 1 r) i).a j=(k:Int):=e
    rw[e2]at e3
    have e4:(0:Int)=(k:Int):=e3
    omega
  ·rw[aA]
   have:=A6e M 42 (by omega)
   have hu:V9 (As.R ⟨λ_=>Nd.gone 0,nou⟩) 40=0:=A6f 40
   omega
  ·show M4 H 1 r 0=nou
   rw[E7 _ _ (by omega),X 0 (by omega)]
 obtain⟨a1,a2,a3⟩:=Rq.reset (s:=⟨M4 H 1 r,0⟩) aD rfl (i:=1) ⟨by decide,by decide⟩ (y:=⟨1,1,0,noB,[]⟩) ⟨.inr (.inl rfl),by decide,by decide,λx=>(by cases x),λ_=>Nat.zero_le _,λ_ _=>rfl,A3U,Nat.zero_le _,λ_=>rfl⟩ (λj _=>by
  unfold P5
  rw[if_pos rfl,List.getD_eq_getElem?_getD,List.getElem?_eq_none (by rw[N3];exact Nat.zero_le _)]
  rfl) (z:=B0h) rfl rfl rfl (λj hj=>((I 1 (by decide) (by decide)).a j hj).symm)
 rw[es]
 refine⟨a1,?_,[1]++[2],by decide,Dif.trans (λk hk=>?_) a3⟩
 ·have:(As.up ⟨λ_=>Nd.gone 0,nou⟩ 1 ⟨1,1,0,noB,[]⟩)=A0:=rfl
  rw[<-this]
  exact a2
 ·by_cases e:k=1
  ·exact List.mem_singleton.2 e
  ·exact absurd (E7 _ _ e) hk
theorem C2d:Tr A0:=by
 have U:∀i,(A0.n i).l=[]:=λi=>by unfold A0;simp only;split<;>rfl
 refine⟨⟨rfl,rfl⟩,λi x _ _ I=>?_,λi x _ _ _ _ _ _ I=>?_,λc _ _ J V=>?_⟩
 ·rw[U i]at I;simp at I
 ·rw[U i]at I;simp at I
 ·exfalso
  unfold A0 at J
  simp only[if_neg V]at J
  exact J rfl
end
structure OpD (w:World) (F:Nat->Prop) (d n N:Nat) (e:Ending) (E:Ev) (k:Nat) (A:As) (w':World):Prop where
 e:e= .returned (.tuple #[.pointer (some ⟨E.o,0,none⟩),.int .i64 0])
 st:Sto w' E k A
 d:E.d=d
 n:E.n=n
 N:E.N=N
 hi:OpB w E.l E.b E.o E.mo
 adv:A8 F w (EO E) w'
section
variable {w:World} {F:Nat->Prop} {d n N:Nat}
theorem B3g{s:DS}{l b o I:Nat}(h:OpB w l b o I){k:Nat}(J:EO (D2 F d l b n N s o I) k):F k\/w.heap.size<=k:=by
 rcases J with(y|y|y)|y
 ·exact .inl y
 ·have e:k=l:=y
  rw[e];exact .inr h.l
 ·have e:k=b:=y
  rw[e];exact .inr h.b
 ·have e:k=I:=y
  rw[e];exact .inr h.mo
theorem B1J(h:Dk w F d N (newS N))(hn:20<=n/\n+48<=N/\N<=n+1026/\N<=1100):
 Calls Tryz.prog 11 #[.pointer (some ⟨d,0,none⟩),.int .i64 (n:Int)] w λe w'=>∃E,OpD w F d n N e E 3 A0 w':=by
 have aC:2<=n/\n+3<=N/\N<=4096:=by omega
 have U:46<=N-2-n/\N-2-n<=1024:=by omega
 obtain⟨X,hx,hg⟩:=Ar.new aC
 have hA:(H7 (newS N) n N).A=λ_=>none:=X.A
 have aA:∀k,k<N-2-n->D3 (newS N) n (H7 (newS N) n N) k=nou:=λk V=>by rw[X.home V,hA];rfl
 have aB:∀l b o I,Lv (D2 F d l b n N (newS N) o I) 0:=λl b o I=>⟨⟨hn.1,by show N=N-2-n+2+n;omega,aC.2.2,U.1,U.2⟩,⟨_,_,X⟩,Nat.le_of_eq hx,Nat.le_of_eq hg,rfl,rfl⟩
 have Y:∀l b o I,ChD (D2 F d l b n N (newS N) o I).H (D2 F d l b n N (newS N) o I).M ((⟨(D2 F d l b n N (newS N) o I).H,0⟩:CS).begin (D2 F d l b n N (newS N) o I).M) A0:=λl b o I=>B7v U aA
 refine(B7t h X.sb_ hn (by have:=X.top aC;omega) (by rw[hA];exact AOk.none _) (B9j (B9i U) aA) (B4D U aA) (B0p U.1 aA (by decide)).k (λl b o I=>⟨((aB l b o I).change (by decide) rfl (Y l b o I)).1,((aB l b o I).change (by decide) rfl (Y l b o I)).2.1⟩)).mono λe w' he=>?_
 obtain⟨l,b,o,I,w1,rfl,so,ob,J,F',O',h1,h2,h3⟩:=he
 obtain⟨_,e0,on,hl⟩:=(aB l b o I).change (by decide) rfl (Y l b o I)
 have hO:O'=(D2 F d l b n N (newS N) o I).O:=h2.none (.inl e0)
 rw[hO]at h1 h3
 obtain⟨l1,l2⟩:=hl F'
 refine⟨_,rfl,⟨h1,l1,on,(Y l b o I).rp.sameH l2,C2d⟩,rfl,rfl,rfl,ob,?_⟩
 refine⟨h3.os.trans J.os,h3.tape.trans J.tape,h3.output.trans J.output,Nat.le_trans J.size h3.size,λk V hF=>?_,λk V=>?_⟩
 ·refine(h3.block k (Nat.lt_of_lt_of_le V J.size) (λy=>?_)).trans (J.block k V (λy=>y))
  rcases B3g ob y with z|z
  ·exact hF z
  ·omega
 ·rcases h3.into k V with y|y
  ·exact B3g ob y
  ·exact .inr (Nat.le_trans J.size y)
end
end
section
open Go.RowKit Go.Maps
theorem A7x(A:As){i:Nat}(hi:1<=i/\i<=40)(y:Nd):(A.up i y).use<=A.use+8:=by
 have I:=B1C A hi y
 have J:=B2Q (P5 y) 8
 omega
theorem B0q{f:Nat->List Nat}:∀{n:Nat},(∀j,j<n->f j=[])->Q6 f n=0
 |0,_=>rfl
 |n+1,h=>by
  show Q6 f n+T5 (f n)=0
  rw[B0q (λj I=>h j (by omega)),h n (by omega)]
  rfl
theorem B1K(A:As){i:Nat}(hi:1<=i/\i<=40){y:Nd}(J:∀j,j<8->P5 y j=[]):(A.up i y).use<=A.use:=by
 have I:=B1C A hi y
 rw[B0q J]at I
 omega
theorem C0P:A0.use=0:=by
 have:A0.use=V9 (λ_ _=>[]) 40:=V1 λi j _ _ _=>by
  show P5 (A0.n i) j=[]
  unfold A0
  simp only
  split
  ·unfold P5
   rw[if_pos rfl,List.getD_eq_getElem?_getD,List.getElem?_eq_none (by rw[N3];exact Nat.zero_le _)]
   rfl
  ·rfl
 rw[this,A6f]
def txA:ByteArray:=⟨#[97]⟩
def txH:ByteArray:=⟨#[104,101,108,108,111]⟩
theorem B3h:Nam txA:=by
 unfold Nam A4i txA
 decide
def Al1:As:=S6 A0 1 txA 2 1
theorem B9A{M:Nat}(hM:50<=M):A17 A0 M 1 1 txA 2=(Al1,(2,1),0):=by
 have aA:ofA A0 1 1 1=0:=by decide
 have X:(fnd (A0.n (1:Int).toNat).l txA).isSome=true↔False:=by
  rw[show(A0.n (1:Int).toNat).l=[]from rfl]
  simp[fnd]
 have Y:A12 A0=some 1:=by decide
 unfold A17
 rw[if_pos B3h,if_pos (.inr rfl),if_pos aA,if_neg (by rw[X];exact id),Y]
 have hu:(S6 A0 1 txA 2 1).use<=8:=by
  unfold S6
  simp only
  have I:=B1K A0 (i:=1+1) (by decide) (y:=Nd.new 2 ((A0.n (1+1)).g+1)) (λj _=>B0g _ _ j)
  obtain⟨B,U⟩:∃B,B=A0.up (1+1) (Nd.new 2 ((A0.n (1+1)).g+1)):=⟨_,rfl⟩
  rw[<-U]at I⊢
  have J:=A7x B (i:=(1:Int).toNat) (by decide) ((A0.n (1:Int).toNat).ls (R3 (A0.n (1:Int).toNat).l ⟨txA,((1+1:Nat):Int),(A0.n (1+1)).g+1,2⟩))
  obtain⟨C,V⟩:∃C,C=B.up (1:Int).toNat ((A0.n (1:Int).toNat).ls (R3 (A0.n (1:Int).toNat).l ⟨txA,((1+1:Nat):Int),(A0.n (1+1)).g+1,2⟩)):=⟨_,rfl⟩
  rw[<-V]at J⊢
  have h3:=A8s C (1:Int).toNat
  have h0:=C0P
  omega
 show(if _ then _ else _)=_
 rw[if_neg]
 ·rfl
 ·rintro(x|x|x)
  ·exact absurd x (by decide)
  ·omega
  ·exact absurd x (by decide)
theorem B9k:Al1.use<=8:=by
 have h:=B9A (M:=50) (by decide)
 unfold A17 at h
 have U:ofA A0 1 1 1=0:=by decide
 have J:A12 A0=some 1:=by decide
 rw[if_pos B3h,if_pos (.inr rfl),if_pos U,if_neg (by rw[show(A0.n (1:Int).toNat).l=[]from rfl];simp[fnd]),J]at h
 have I:(if 24<(R3 (A0.n (1:Int).toNat).l ⟨txA,((1+1:Nat):Int),(A0.n (1+1)).g+1,2⟩).length\/50<(S6 A0 1 txA 2 1).use+42\/(A0.n (1:Int).toNat).v=1099511627775 then((A0,(0,0),8):As×(Int×Int)×Int)else(S6 A0 1 txA 2 1,(((1+1:Nat):Int),(A0.n (1+1)).g+1),0))=(Al1,(2,1),0):=h
 by_cases c:24<(R3 (A0.n (1:Int).toNat).l ⟨txA,((1+1:Nat):Int),(A0.n (1+1)).g+1,2⟩).length\/50<(S6 A0 1 txA 2 1).use+42\/(A0.n (1:Int).toNat).v=1099511627775
 ·rw[if_pos c]at I
  exact absurd (congrArg (λq=>q.2.2) I) (by decide)
 ·show(S6 A0 1 txA 2 1).use<=8
  omega
def Al2:As:=A0v Al1 2 1 txH
theorem C2e{M:Nat}(V:58<=M):A45 Al1 M 2 1 1 txH=(Al2,2,0):=by
 have I:ofA Al1 2 1 2=0:=by decide
 unfold A45
 rw[if_pos (by decide),if_pos (by decide),if_pos I]
 have X:(A0v Al1 (2:Int).toNat (1:Int).toNat txH).use<=16:=by
  have J:=B9k
  have U:=A7x Al1 (i:=(2:Int).toNat) (by decide) ((Al1.n (2:Int).toNat).bk (λb=>if b=(1:Int).toNat then txH else(Al1.n (2:Int).toNat).b b)).inc
  unfold A0v
  omega
 rw[if_neg]
 ·rfl
 ·rintro(x|x)
  ·omega
  ·exact absurd x (by decide)
theorem C0R:rbE Al2 2 1 1=0/\rbT Al2 2 1 1=txH/\rbV Al2 2 1 1=2:=by
 have h:rbE Al2 2 1 1=0:=by decide
 refine⟨h,?_,?_⟩
 ·unfold rbT;rw[if_pos h];rfl
 ·unfold rbV;rw[if_pos h];rfl
end
section
open Go.RowKit Go.Maps
structure Hs (W w:World) (Z:Nat->Prop) (d o n N k:Nat) (A:As):Prop where
 ex:∃E,Sto w E k A/\E.o=o/\E.d=d/\E.n=n/\E.N=N/\(∀j,(EO E j\/j=E.o)->W.heap.size<=j/\¬Z j)
 adv:A8 B0 W B0 w
 zb:∀j,Z j->j<w.heap.size
def B3i(Z:Nat->Prop)(w w':World):Prop:=∀z,Z z->w'.heap[z]? =w.heap[z]?
section
variable {W w w':World} {Z:Nat->Prop} {d o n N k:Nat} {A A':As} {E:Ev}
theorem So.eo_bd(h:So w E):∀j,(EO E j\/j=E.o)->j<w.heap.size:=λj V=>by
 obtain⟨I,J,U⟩:=h.bd
 rcases V with(y|y)|y
 ·exact I j y
 ·rw[y];exact U
 ·rw[y];exact J
theorem Hs.step{F':Nat->Prop}(h:Hs W w Z d o n N k A)(I:A8 B0 w F' w'):Hs W w' Z d o n N k A:=by
 obtain⟨E,J,U⟩:=h.ex
 exact⟨⟨E,J.step I,U⟩,h.adv.trans I.nul,λj V=>Nat.lt_of_lt_of_le (h.zb j V) I.size⟩
theorem Hs.more{U:World}(h:Hs W w Z d o n N k A)(J:A8 B0 w B0 U)(z:Nat)(hz:w.heap.size<=z)(aA:z<U.heap.size):Hs W U (λj=>Z j\/j=z) d o n N k A:=by
 obtain⟨E,V,Y,h3,h4,h5,X⟩:=h.ex
 refine⟨⟨E,V.step J,Y,h3,h4,h5,λj I=>⟨(X j I).1,λy=>?_⟩⟩,h.adv.trans J,λj I=>?_⟩
 ·rcases y with y|y
  ·exact(X j I).2 y
  ·have:=V.so.eo_bd j I
   omega
 ·rcases I with y|y
  ·exact Nat.lt_of_lt_of_le (h.zb j y) J.size
  ·rw[y];exact aA
theorem Hs.of_aft(h:Hs W w Z d o n N k A){E:Ev}(V:E.o=o/\E.d=d/\E.n=n/\E.N=N)(X:∀j,(EO E j\/j=E.o)->W.heap.size<=j/\¬Z j)(ha:Aft w E k A' w'):Hs W w' Z d o n N (k+3) A'/\B3i Z w w':=by
 obtain⟨Y,s',U,I⟩:=ha
 have aA:∀j,(EO Y j\/j=Y.o)->W.heap.size<=j/\¬Z j:=λj J=>by
  rcases J with y|y
  ·rcases I.into j y with z|z
   ·exact X j (.inl z)
   ·exact⟨Nat.le_trans h.adv.size z,λq=>by have:=h.zb j q;omega⟩
  ·rw[U.o]at y
   exact X j (.inr y)
 refine⟨⟨⟨Y,s',U.o.trans V.1,U.d.trans V.2.1,U.n.trans V.2.2.1,U.N.trans V.2.2.2,aA⟩,?_,λj J=>Nat.lt_of_lt_of_le (h.zb j J) I.size⟩,λz hz=>I.block z (h.zb z hz) (λy=>(X z (.inl y)).2 hz)⟩
 exact⟨I.os.trans h.adv.os,I.tape.trans h.adv.tape,I.output.trans h.adv.output,Nat.le_trans h.adv.size I.size,λj J _=>(I.block j (Nat.lt_of_lt_of_le J h.adv.size) (λy=>by have:=(X j (.inl y)).1;omega)).trans (h.adv.block j J (λy=>y)),λ_ y=>y.elim⟩
theorem Hs.M(I:E.n=n)(J:E.N=N):E.M=N-2-n:=by unfold Ev.M;rw[I,J]
theorem Hs.create(h:Hs W w Z d o n N k A)(hk:k<=127)(i g:Int)(s:ByteArray)(I:Int)(hm:s.size<=maxLen):
 Calls Tryz.prog 36 #[.pointer (some ⟨o,0,none⟩),.agg #[.int .i64 i,.int .i64 g],.string s,.int .i64 I] w λr w'=>
  r= .returned (.tuple #[.agg #[.int .i64 (A17 A (N-2-n) i g s I).2.1.1,.int .i64 (A17 A (N-2-n) i g s I).2.1.2],.int .i64 (A17 A (N-2-n) i g s I).2.2])/\Hs W w' Z d o n N (k+3) (A17 A (N-2-n) i g s I).1/\B3i Z w w':=by
 obtain⟨E,Y,J,h3,U,V,h6⟩:=h.ex
 have:=Y.create hk i g s I hm
 rw[Hs.M U V,J]at this
 exact this.mono λr w' X=>⟨X.1,h.of_aft ⟨J,h3,U,V⟩ h6 X.2⟩
theorem Hs.write(h:Hs W w Z d o n N k A)(hk:k<=127)(i g a:Int)(s:ByteArray):
 Calls Tryz.prog 35 #[.pointer (some ⟨o,0,none⟩),.agg #[.int .i64 i,.int .i64 g],.int .i64 a,.string s] w λr w'=>
  r= .returned (.tuple #[.int .u64 ((A45 A (N-2-n) i g a s).2.1:Int),.int .i64 (A45 A (N-2-n) i g a s).2.2])/\Hs W w' Z d o n N (k+3) (A45 A (N-2-n) i g a s).1/\B3i Z w w':=by
 obtain⟨E,X,I,h3,J,U,Y⟩:=h.ex
 have:=X.write hk i g a s
 rw[Hs.M J U,I]at this
 exact this.mono λr w' V=>⟨V.1,h.of_aft ⟨I,h3,J,U⟩ Y V.2⟩
theorem Hs.read(h:Hs W w Z d o n N k A)(i g a:Int):Calls Tryz.prog 34 #[.pointer (some ⟨o,0,none⟩),.agg #[.int .i64 i,.int .i64 g],.int .i64 a] w λe w'=>e= .returned (.tuple #[.string (rbT A i g a),.int .u64 (rbV A i g a:Int),.int .i64 (rbE A i g a)])/\A8 B0 w B0 w':=by
 obtain⟨E,I,J,_⟩:=h.ex
 have:=I.read i g a
 rwa[J]at this
open Classical in
theorem Hs.new{F:Nat->Prop}(hF:∀j,F j->W.heap.size<=j)(J:A8 B0 W F w){e:Ending}(I:OpD w F d n N e E k A w'):Hs W w' B0 d E.o n N k A:=by
 refine⟨⟨E,I.st,rfl,I.d,I.n,I.N,λj U=>⟨?_,λy=>y⟩⟩,?_,λj U=>U.elim⟩
 ·rcases U with y|y
  ·rcases I.adv.into j y with z|z
   ·exact hF j z
   ·exact Nat.le_trans J.size z
  ·rw[y];exact Nat.le_trans J.size I.hi.o
 ·exact(J.trans I.adv).nul
theorem Hs.open_(W:World)(d n N:Nat)(V:20<=n/\n+48<=N/\N<=n+1026/\N<=1100){F:Nat->Prop}(h:Dk w F d N (newS N))(I:A8 B0 W F w):
 Calls Tryz.prog 11 #[.pointer (some ⟨d,0,none⟩),.int .i64 (n:Int)] w λe w'=>∃o,e= .returned (.tuple #[.pointer (some ⟨o,0,none⟩),.int .i64 0])/\Hs W w' B0 d o n N 3 A0:=
 (B1J h V).mono λe w' ⟨E,J⟩=>⟨E.o,J.e,Hs.new (λj U=>by rcases I.into j U with y|y;exact y.elim;exact y) I J⟩
end
theorem B9l:txA.size<=maxLen:=by decide
theorem A8y(w:World):Calls Tryz.prog 17 #[] w λe w'=>e= .returned (.bool true)/\A8 B0 w B0 w':=by
 have aM:=C3t (λV=>B9u 90 (by decide) (by decide) V)
 have aN:=C3t (λV (F:Nat->Prop) d (h:Dk V F d 90 (newS 90)) (a:A8 B0 w F V)=>show Calls Tryz.prog 11 #[.pointer (some ⟨d,0,none⟩),.int .i64 20] V λe w'=>∃o,e= .returned (.tuple #[.pointer (some ⟨o,0,none⟩),.int .i64 0])/\Hs w w' B0 d o 20 90 3 A0 from Hs.open_ w d 20 90 (by decide) h a)
 have aL:=C3t (λV Z d o (h:Hs w V Z d o 20 90 3 A0)=>show Calls Tryz.prog 36 #[.pointer (some ⟨o,0,none⟩),.agg #[.int .i64 1,.int .i64 1],.string ⟨#[97]⟩,.int .i64 2] V λr w'=>r= .returned (.tuple #[.agg #[.int .i64 2,.int .i64 1],.int .i64 0])/\Hs w w' Z d o 20 90 6 Al1 from(by
  have:=h.create (by decide) 1 1 txA 2 B9l
  rw[B9A (by decide)]at this
  exact this.mono λr w' hr=>⟨hr.1,hr.2.1⟩))
 have aQ:=C3t (λV Z d o (h:Hs w V Z d o 20 90 6 Al1)=>show Calls Tryz.prog 35 #[.pointer (some ⟨o,0,none⟩),.agg #[.int .i64 2,.int .i64 1],.int .i64 1,.string ⟨#[104,101,108,108,111]⟩] V λr w'=>r= .returned (.tuple #[.int .u64 2,.int .i64 0])/\Hs w w' Z d o 20 90 9 Al2/\B3i Z V w' from(by
  have:=h.write (by decide) 2 1 1 txH
  rw[C2e (by decide)]at this
  exact this))
 have aO:=C3t (λV Z d o (h:Hs w V Z d o 20 90 9 Al2)=>show Calls Tryz.prog 34 #[.pointer (some ⟨o,0,none⟩),.agg #[.int .i64 2,.int .i64 1],.int .i64 1] V λr w'=>r= .returned (.tuple #[.string ⟨#[104,101,108,108,111]⟩,.int .u64 2,.int .i64 0])/\A8 B0 V B0 w' from(by
  have:=h.read 2 1 1
  rw[C0R.1,C0R.2.1,C0R.2.2]at this
  exact this))
 go_enter Tryz.func17,Tryz.ntmps17
 go_wp2_with (first
  |(go_at_call 10;refine(aM.out _).mono ?_;rintro e w1 ⟨d,F,rfl,hd,I⟩;have aD:=C3t hd;have aB:=C3t I;clear hd I)
  |(go_at_call 11;refine(aN.out _ _ _ aD.out aB.out).mono ?_;rintro e w2 ⟨o,rfl,J⟩;have aE:=C3t J;clear J aD aB)
  |(go_at_call 32;refine(A14 _).mono ?_;rintro e w3 ⟨rfl,I⟩;have aF:=C3t (aE.out.step I);clear I aE)
  |(go_at_call 36;refine(aL.out _ _ _ _ aF.out).mono ?_;rintro e w4 ⟨rfl,J⟩;have aG:=C3t J;clear J aF)
  |(refine B6 rfl rfl J4 ?_;intro X w5 hz U I;have aI:=C3t hz;have aC:=C3t U;have aJ:=C3t I;clear hz U I)
  |(refine B5 rfl _ _ rfl X aC.out rfl rfl B1 rfl rfl (P4 _ _) ?_;intro w6 U I;have Y:=C3t U;have aH:=C3t (aG.out.more (aJ.out.fresh aI.out I) X aI.out U.lt);clear U I aG aC)
  |(refine C3 (t:=35) rfl _ rfl X Y.out rfl Tryz.underlying35 rfl B1 rfl ?_)
  |(go_at_call 35;refine(aQ.out _ _ _ _ aH.out).mono ?_;rintro e w7 ⟨rfl,J,hk⟩;have aA:=C3t J;have aK:=C3t (Y.out.keep (hk X (.inr rfl)));clear J hk aH Y)
  |(refine C3 (t:=35) rfl _ rfl X aK.out rfl Tryz.underlying35 rfl B1 rfl ?_)
  |(go_at_call 34;refine(aO.out _ _ _ _ aA.out).mono ?_;rintro e w8 ⟨rfl,I⟩;have aP:=C3t (aA.out.step I);clear I aA)
  |fail)
 go_ret
 exact⟨rfl,aP.out.adv⟩
end
end Go.Proofs.YtbefmjiclpobjaaGreat
