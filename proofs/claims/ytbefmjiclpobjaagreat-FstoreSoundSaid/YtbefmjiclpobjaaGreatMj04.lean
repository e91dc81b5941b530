import Derived.Test.YtbefmjiclpobjaaGreatMj02
import Derived.Test.YtbefmjiclpobjaaGreatMj03
import Derived.Great.FillDense
namespace Go.Proofs.YtbefmjiclpobjaaGreat
set_option maxHeartbeats 3200000
set_option maxRecDepth 3000
section
open Go.RowKit
def h3(g t f:Int):Array Value:= #[.int .u64 g,.int .u64 t,.int .u64 f]
theorem Z8(g t f:Int):(h3 g t f).all (·.oneCell')=true:=by simp[h3,Value.oneCell']
theorem Q8:(Tryz.prog.info? 135).map (·.size)=some 3:=by kernel_rfl
theorem A04{ops:Array Oper}{o:Oper}{a:Act}{w:World}{Q:Exit->Act->World->Prop}{K:Act->World->Prop}{E:Prop}{t t':TypeId}(aA:(Tryz.prog.info? t).map (·.size)=some 3)(Y:o.guard=none)(x y:Operand)(Z:o.op= .store t x y)
 (z:Nat) (C D:Array Value) (U:C3 w z t' C) (X:C.size=3) (I:D.size=3) (J:D.all (·.oneCell')=true) (hx:a.eval x= .pointer (some ⟨z,0,none⟩)) (hy:a.eval y= .agg D)
 (h:K (a.put o.dst undef) (w.setCells z 0 D.toList)):if Region.wanted o (yielded ops a.tmps)=true then Oper.wp Tryz.prog o a w K Q else E:=by
 rw[if_pos (by simp[Region.wanted,Y])]
 refine wp_store_mid t x y Z z 0 D hx hy ?_ (by rw[aA,I]) J h
 have:=U.there
 rw[X]at this
 rw[I];exact this
theorem Z9{ops:Array Oper}{rest:List Oper}{o:Oper}{a:Act}{w:World}{Q:Exit->Act->World->Prop}{t t':TypeId}(aA:(Tryz.prog.info? t).map (·.size)=some 3)(I:o.guard=none)(x y:Operand)(ho:o.op= .store t x y)
 (z:Nat) (C D:Array Value) (X:C3 w z t' C) (Y:C.size=3) (Z:D.size=3) (U:D.all (·.oneCell')=true) (hx:a.eval x= .pointer (some ⟨z,0,none⟩)) (hy:a.eval y= .agg D)
 (h:wpList Tryz.prog ops Q rest (a.put o.dst undef) (w.setCells z 0 D.toList)):wpList Tryz.prog ops Q (o::rest) a w:=by
 refine wpList_plain I λK hK=>?_
 have J:=A04 (ops:=ops) (K:=K) (Q:=Q) (E:=True) aA I x y ho z C D X Y Z U hx hy (hK _ _ h)
 rwa[if_pos (by simp[Region.wanted,I])]at J
theorem C3.three{w:World}{b:Nat}{t:TypeId}{I J U:Value}(h:C3 w b t #[I,J,U]):w.cell? ⟨b,0,none⟩=some I/\w.cell? ⟨b,1,none⟩=some J/\w.cell? ⟨b,2,none⟩=some U:=
 ⟨h.cell 0,h.cell 1,h.cell 2⟩
def UhR(w:World)(l:List Nat)(x:Ending)(w':World):Prop:=
 ∃(h:Hd) (I:Bool),x= .returned (.tuple #[.agg #[.int .u64 (h.g:Int),.int .u64 (h.t:Int),.int .u64 (h.f:Int)],.bool I])/\(if I=true then A1o l=some h else A1o l=none)/\B0 B5 w B5 w'
theorem UhR.no{w w':World}{l:List Nat}(g t f:Nat)(h:A1o l=none)(I:B0 B5 w B5 w'):UhR w l (.returned (.tuple #[.agg #[.int .u64 (g:Int),.int .u64 (t:Int),.int .u64 (f:Int)],.bool false])) w':=
 ⟨⟨g,t,f⟩,false,rfl,by simpa using h,I⟩
theorem UhR.yes{w w':World}{l:List Nat}{g t f:Nat}(h:A1o l=some ⟨g,t,f⟩)(I:B0 B5 w B5 w'):UhR w l (.returned (.tuple #[.agg #[.int .u64 (g:Int),.int .u64 (t:Int),.int .u64 (f:Int)],.bool true])) w':=
 ⟨⟨g,t,f⟩,true,rfl,by simpa using h,I⟩
def RdS(w:World)(F:Nat->Prop)(b q V a:Nat):Prop:=(a<=8 * q/\RSt w F b q V a/\Bd F w)\/(8 * q<a/\B5S w F b 3)
theorem RdS.far{w w':World}{F:Nat->Prop}{b q V a:Nat}(h:RdS w F b q V a)(Z:∀k,F k->k<w.heap.size->w'.heap[k]? =w.heap[k]?) (hs:w.heap.size<=w'.heap.size):RdS w' F b q V a:=by
 rcases h with⟨Y,I,h3⟩|⟨Y,I⟩
 ·obtain⟨rv,X,U⟩:=I.ex
  refine .inl ⟨Y,⟨⟨rv,X.keep (Z b I.inF X.lt),⟨J2 U.own λk J=>Z k (U.inF k J) (U.bd k (U.inF k J)),U.inF,λk J=>Nat.lt_of_lt_of_le (U.bd k J) hs⟩⟩,I.inF,I.le,I.sm⟩,λk J=>Nat.lt_of_lt_of_le (h3 k J) hs⟩
 ·obtain⟨v,r,X⟩:=I.ex
  exact .inr ⟨Y,⟨⟨v,r,X.keep (Z b I.inF X.lt)⟩,I.ne,I.inF,λk J=>Nat.lt_of_lt_of_le (I.bd k J) hs⟩⟩
theorem RdS.bd{w:World}{F:Nat->Prop}{b q V a:Nat}(h:RdS w F b q V a):Bd F w:=by
 rcases h with⟨_,_,h3⟩|⟨_,I⟩
 ·exact h3
 ·exact I.bd
theorem RdS.get{w:World}{F:Nat->Prop}{b q V a:Nat}(h:RdS w F b q V a)(n:Nat)(Y:n<=64):
 Calls Tryz.prog 131 #[.pointer (some ⟨b,0,none⟩),.int .i64 (n:Int)] w λe w'=>∃x:Nat,e= .returned (.int .u64 (x:Int))/\RdS w' F b q V (a+n)/\B0 F w F w'/\(a+n<=8 * q->x=C4 q V a n):=by
 rcases h with⟨Z,I,h3⟩|⟨Z,I⟩
 ·by_cases J:a+n<=8 * q
  ·refine(A08 b q V a n F w I h3 Y J).mono ?_
   rintro e w' ⟨rfl,U,X,k3⟩
   exact⟨_,rfl,.inl ⟨J,U,k3⟩,X,λ_=>rfl⟩
  ·refine(A8y b q V a n F w I h3 Y (by omega)).mono ?_
   rintro e w' ⟨rfl,U,X⟩
   exact⟨0,rfl,.inr ⟨by omega,U⟩,X,λh=>absurd h J⟩
 ·refine(B4p b n 3 F w I).mono ?_
  rintro e w' ⟨rfl,rfl⟩
  exact⟨0,rfl,.inr ⟨by omega,I⟩,B0.refl _ _,λh=>by omega⟩
def A4L(q V a:Nat):Int:=if a<=8 * q then A3i q V a else 3
theorem RdS.end_{w:World}{F:Nat->Prop}{b q V a:Nat}(h:RdS w F b q V a):
 Calls Tryz.prog 158 #[.pointer (some ⟨b,0,none⟩)] w λe w'=>e= .returned (.int .i64 (A4L q V a))/\B0 B5 w B5 w':=by
 rcases h with⟨J,I,h3⟩|⟨J,I⟩
 ·refine(C0u b q V a F w I h3).mono ?_
  rintro e w' ⟨rfl,k⟩
  exact⟨by rw[A4L,if_pos J],⟨k.os,k.tape,k.output,k.size,λi hi _=>k.block i hi,λ_ h=>h.elim⟩⟩
 ·refine(B7G b 3 F w I).mono ?_
  rintro e w' ⟨rfl,rfl⟩
  exact⟨by rw[A4L,if_neg (by omega)],B0.refl _ _⟩
theorem C0v(q V:Nat):(A4L q V 64==0)=decide (q=8):=by
 unfold A4L A3i
 by_cases h:q=8
 ·subst h
  simp[Nat.mod_one]
 ·rw[decide_eq_false h,beq_eq_false_iff_ne]
  split
  ·split
   ·omega
   ·decide
  ·decide
structure GE (W:World) (F:Nat->Prop) (b q V y z pn:Nat) (a:Nat) (w:World):Prop where
 rs:RdS w F b q V a
 ad:B0 F W F w
 fy:¬F y
 fz:¬F z
 cy:W.cell? ⟨y,1,none⟩=some (.int .u64 (pn:Int))
 ly:y<W.heap.size
 bz:∃C,C3 W z 135 C/\C.size=3
section
variable {W w w':World} {F:Nat->Prop} {b q V y z pn a:Nat}
theorem GE.cell(h:GE W F b q V y z pn a w):w.cell? ⟨y,1,none⟩=some (.int .u64 (pn:Int)):=(World.cell?_of_block (h.ad.block y h.ly h.fy)).trans h.cy
theorem GE.drew(h:GE W F b q V y z pn a w):GE W F b q V y z pn a w.drew:=⟨h.rs.far (λ_ _ _=>rfl) (Nat.le_refl _),h.ad.drew,h.fy,h.fz,h.cy,h.ly,h.bz⟩
theorem GE.alloc(h:GE W F b q V y z pn a w)(o:Obj):GE W F b q V y z pn a (w.alloc o):=⟨h.rs.far (λ_ _ I=>Below.heap_alloc _ _ _ I) (by simp),h.ad.alloc o,h.fy,h.fz,h.cy,h.ly,h.bz⟩
theorem GE.put{u:Nat}(h:GE W F b q V y z pn a w)(J:W.heap.size<=u)(hF:¬F u)(D:List Value):GE W F b q V y z pn a (w.setCells u 0 D):=
 ⟨h.rs.far (λ_ I _=>L7 u (λe=>hF (e ▸ I)) D 0 w) (B0.lsetCells D 0 _ (B0.refl (λk=>k=u) w) (.inl rfl)).size,B0.lsetCells D 0 _ h.ad (.inr J),h.fy,h.fz,h.cy,h.ly,h.bz⟩
theorem GE.get(h:GE W F b q V y z pn a w)(n:Nat)(U:n<=64):
 Calls Tryz.prog 131 #[.pointer (some ⟨b,0,none⟩),.int .i64 (n:Int)] w λe w'=>∃x:Nat,e= .returned (.int .u64 (x:Int))/\GE W F b q V y z pn (a+n) w'/\B0 F w F w'/\(a+n<=8 * q->x=C4 q V a n):=by
 refine(h.rs.get n U).mono ?_
 rintro e w' ⟨x,rfl,J,I,h3⟩
 exact⟨x,rfl,⟨J,h.ad.trans I,h.fy,h.fz,h.cy,h.ly,h.bz⟩,I,h3⟩
theorem GE.newF(h:GE W F b q V y z pn a w):¬F w.heap.size:=λI=>Nat.lt_irrefl _ (h.rs.bd _ I)
end
def C4h(W:World)(F:Nat->Prop)(b q V y z pn:Nat)(t7:Value)(wr:World):Prop:=
 ∃u I J:Nat,t7= .pointer (some ⟨u,0,none⟩)/\C3 wr u 135 (h3 (pn:Int) (I:Int) (J:Int))/\GE W F b q V y z pn 64 wr/\(40<=8 * q->I=C4 q V 0 40)/\(64<=8 * q->J=C4 q V 40 24)/\W.heap.size<=u/\¬F u
theorem A9w{W w:World}{F:Nat->Prop}{b q V y z pn u I J:Nat}{C:Array Value}(h:GE W F b q V y z pn 64 w)(Z:C3 w u 135 C)(hC:C.size=3)(U:W.heap.size<=u)(hF:¬F u)(X:40<=8 * q->I=C4 q V 0 40)(Y:64<=8 * q->J=C4 q V 40 24):
 C4h W F b q V y z pn (.pointer (some ⟨u,0,none⟩)) (w.setCells u 0 (h3 (pn:Int) (I:Int) (J:Int)).toList):=
 ⟨u,I,J,rfl,Z.putAll (by rw[hC];rfl),h.put U hF _,X,Y,U,hF⟩
theorem B0M(v:Value)(n:Nat)(l:List Nat)(w:World)(h:Rd w 1 v n (l.map u8))(hl:∀x∈l,x<256):Calls Tryz.prog 121 #[v] w (UhR w l):=by
 obtain⟨A0,c0,rfl,_,_⟩:=h.form
 obtain⟨z,hz⟩:∃z,z=w.heap.size:=⟨_,rfl⟩
 obtain⟨V,hV⟩:∃V,V=w.alloc (.cells #[.int .u64 0,.int .u64 0,.int .u64 0] 135):=⟨_,rfl⟩
 have HZ:=C6x (show C3 V z 135 (h3 0 0 0)by rw[hV,hz];exact C3.new _ _ _)
 have HA:=C6x (show B0 B5 w B5 V by rw[hV];exact(B0.refl _ _).alloc _)
 have HR:=C6x (show Rd V 1 (.slice A0 n c0) n (l.map u8)by rw[hV];exact h.up _)
 have HL:=C6x hl
 have HV:=C6x hV
 have aW:=C6x hz
 clear h hl hV hz
 go_enter Tryz.func121,Tryz.ntmps121
 go_wp2_with fail
 rw[<-HV.out,<-aW.out]
 refine(A6x _ n l _ HR.out HL.out).mono ?_
 intro x w1 h
 obtain⟨A,k,F1,rfl,s1,t1⟩:=h
 obtain⟨p,hp⟩:∃p,p=T8 l:=⟨_,rfl⟩
 obtain⟨E,hE⟩:∃E,E=A0t l:=⟨_,rfl⟩
 rw[<-hp,<-hE]
 rw[<-hp]at s1
 obtain⟨pe,pn,pf,pg,D⟩:=p
 obtain⟨d,hd⟩:∃d,d=D.length:=⟨_,rfl⟩
 simp only[<-hd]at s1⊢
 obtain⟨y,hy⟩:∃y,y=w1.heap.size:=⟨_,rfl⟩
 obtain⟨W,hW⟩:∃W,W=w1.alloc (.cells #[.int .u64 (pe:Int),.int .u64 (pn:Int),.bool pf,.bool pg,.slice A d k] 201):=⟨_,rfl⟩
 have HY:=C6x (show C3 W y 201 #[.int .u64 (pe:Int),.int .u64 (pn:Int),.bool pf,.bool pg,.slice A d k]by rw[hW,hy];exact C3.new _ _ _)
 have HT:=C6x (show B0 B5 V B5 W by rw[hW];exact(t1.sub (λ_ h=>h.elim)).alloc _)
 have aA:=C6x (HZ.out.keep (HT.out.block z HZ.out.lt (λh=>h)))
 have bR:=C6x (show Rd W 1 (.slice A d k) d (D.map u8)by rw[hW];exact s1.rd.up _)
 have cD:=C6x (show y≠z by have:=HZ.out.lt;have:=t1.size;omega)
 have HP:=C6x hp
 have HE:=C6x hE
 have HD:=C6x hd
 have HW:=C6x hW
 have cA:=C6x hy
 clear s1 t1 hp hE hd hy hW
 go_upto_region 2 with(fail)
 rw[<-HW.out,<-cA.out]
 obtain⟨c0,c1,c2,c3,c4⟩:=HY.out.five
 have aJ:=C6x (show w.heap.size<=z by rw[aW.out];exact Nat.le_refl _)
 by_cases hw:A0q l
 ·have aL:(⟨pe,pn,pf,pg,D⟩:Pc)=dec l:=by rw[HP.out,T8,if_pos hw]
  obtain rfl:E=0:=by rw[HE.out,A0t,if_pos hw]
  have aI:=C6x aL
  have bX:=C6x hw
  have bD:∀x∈D,x<256:=by
   have e:D=(dec l).d:=congrArg Pc.d aL
   rw[e]
   exactλx hx=>HL.out x (List.mem_of_mem_drop (List.mem_of_mem_take hx))
  have bA:d<=106:=by
   have e:D=(dec l).d:=congrArg Pc.d aL
   rw[HD.out,e]
   exact(B73 hw.1 hw.2.1 HL.out).2.2
  have aS:=C6x bD
  have bK:=C6x bA
  clear hw aL bD bA
  cases pf with
  |false=>
   go_wp2_with (first
    |(refine Z9 Q8 rfl (.tmp 2) (.tmp 25) rfl z _ (h3 0 0 0) aA.out rfl rfl (Z8 _ _ _) rfl rfl ?_)
    |fail)
   obtain⟨aE,aF,aG⟩:=(aA.out.putAll (D:=h3 0 0 0) rfl).three
   have aC:UhR w l (.returned (.tuple #[.agg #[.int .u64 0,.int .u64 0,.int .u64 0],.bool false])) (W.setCells z 0 (h3 0 0 0).toList):=UhR.no 0 0 0 (by rw[A1o,<-aI.out];exact if_neg (λh=>by simpa using h.2.1)) (B0.lsetCells _ 0 _ (HA.out.trans HT.out) (.inr aJ.out))
   exact bodyPost_ret (v:=.tuple #[.agg #[.int .u64 0,.int .u64 0,.int .u64 0],.bool false]) (by simp[results,Tryz.results121,go_sem,aE,aF,aG]) rfl aC
  |true=>
  cases pg with
  |false=>
   go_wp2_with (first
    |(refine Z9 Q8 rfl (.tmp 2) (.tmp 25) rfl z _ (h3 0 0 0) aA.out rfl rfl (Z8 _ _ _) rfl rfl ?_)
    |fail)
   obtain⟨aE,aF,aG⟩:=(aA.out.putAll (D:=h3 0 0 0) rfl).three
   have aC:UhR w l (.returned (.tuple #[.agg #[.int .u64 0,.int .u64 0,.int .u64 0],.bool false])) (W.setCells z 0 (h3 0 0 0).toList):=UhR.no 0 0 0 (by rw[A1o,<-aI.out];exact if_neg (λh=>by simpa using h.2.2.1)) (B0.lsetCells _ 0 _ (HA.out.trans HT.out) (.inr aJ.out))
   exact bodyPost_ret (v:=.tuple #[.agg #[.int .u64 0,.int .u64 0,.int .u64 0],.bool false]) (by simp[results,Tryz.results121,go_sem,aE,aF,aG]) rfl aC
  |true=>
   obtain⟨Vn,aO⟩:∃V,V=R8 D:=⟨_,rfl⟩
   have aT:=C6x aO
   have bF:Calls Tryz.prog 130 #[.slice A d k] W λe w'=>∃b F,e= .returned (.pointer (some ⟨b,0,none⟩))/\RSt w' F b d Vn 0/\B0 B5 W F w'/\Bd F w':=A3X _ d Vn W (by rw[aO,HD.out,A8v aS.out,<-HD.out];exact bR.out) (by have:=bK.out;omega)
   have bQ:=C6x bF
   clear aO bF
   go_wp2_with fail
   refine bQ.out.mono ?_
   rintro e W2 ⟨b,F,rfl,r2,t2,b2⟩
   have bB:¬F y:=λh=>by rcases t2.into y h with h|h;exact h.elim;exact absurd HY.out.lt (by omega)
   have bC:¬F z:=λh=>by rcases t2.into z h with h|h;exact h.elim;exact absurd aA.out.lt (by omega)
   have aM:=HY.out.keep (t2.block y HY.out.lt (λh=>h))
   have G0:=C6x (show GE W2 F b d Vn y z pn 0 W2 from⟨.inl ⟨Nat.zero_le _,r2,b2⟩,B0.refl _ _,bB,bC,aM.cell 1,aM.lt,⟨_,aA.out.keep (t2.block z aA.out.lt (λh=>h)),rfl⟩⟩)
   have G1:=C6x G0.out.drew
   have K1:=C6x G0.out.drew.cell
   have bS:=C6x (HA.out.trans (HT.out.trans t2))
   have cE:=C6x (aA.out.keep (t2.block z aA.out.lt (λh=>h)))
   clear r2 t2 b2 bB bC aM c0 c1 c2 c3 c4
   go_upto_region 5 with(fail)
   go_cut [7] (λt7 wr=>C4h W2 F b d Vn y z pn t7 wr)
   case first=>
    refine D6 (S:=(λw'=>w'.cell? ⟨y,1,none⟩=some (.int .u64 (pn:Int)))) (by with_reducible first|exact K8.out|exact K7.out|exact Y.out|exact K5.out|exact X.out|exact K3.out|exact K2.out|exact K1.out) (λhH=>?_)
    refine C6y 0 rfl ?_
    refine C6y 1 rfl ?_
    refine C6y 2 rfl ?_
    refine C6y 4 rfl ?_
    refine C63 3 7 rfl rfl (λK hK=>?_) (λK hK=>?_)
    ·go_simp
     refine(G1.out.get 40 (by decide)).mono ?_
     rintro x w4 ⟨J,rfl,g4,a4,e4⟩
     have G2:=C6x g4
     have X1:=C6x e4
     have K2:=C6x g4.cell
     clear g4 a4 e4
     go_wp2_with fail
     refine C60 hK (by with_reducible first|exact K8.out|exact K7.out|exact Y.out|exact K5.out|exact X.out|exact K3.out|exact K2.out|exact K1.out) ?_
     clear hK K hH
     intro hH
     try simp only[Act.put,sA,sB,sC]
     refine C63 5 7 rfl rfl (λK hK=>?_) (λK hK=>?_)
     ·go_simp
      refine(G2.out.get 24 (by decide)).mono ?_
      rintro x w5 ⟨I,rfl,U,a5,e5⟩
      have G3:=C6x U
      have X2:=C6x e5
      have K3:=C6x U.cell
      have aB:=C6x (C3.new w5 135 #[.int .u64 0,.int .u64 0,.int .u64 0])
      have G4:=C6x (U.alloc (.cells #[.int .u64 0,.int .u64 0,.int .u64 0] 135))
      have X:=C6x (U.alloc (.cells #[.int .u64 0,.int .u64 0,.int .u64 0] 135)).cell
      have Z:=C6x (show W2.heap.size<=w5.heap.size from U.ad.size)
      have HF:=C6x U.newF
      clear U a5 e5
      go_wp2_with fail
      refine C60 hK (by with_reducible first|exact K8.out|exact K7.out|exact Y.out|exact K5.out|exact X.out|exact K3.out|exact K2.out|exact K1.out) ?_
      clear hK K hH
      intro hH
      try simp only[Act.put,sA,sB,sC]
      refine C6y 6 rfl ?_
      refine C6z 7 rfl (λK hK=>?_)
      go_simp
      refine C60 hK (by with_reducible first|exact K8.out|exact K7.out|exact Y.out|exact K5.out|exact X.out|exact K3.out|exact K2.out|exact K1.out) ?_
      clear hK K hH
      intro hH
      try simp only[Act.put,sA,sB,sC]
      refine C6z 8 rfl (λK hK=>?_)
      refine A04 Q8 rfl (.tmp 7) (.tmp 35) rfl _ _ (h3 (pn:Int) (J:Int) (I:Int)) aB.out rfl rfl (Z8 _ _ _) rfl rfl ?_
      have aD:=C6x (A9w G4.out aB.out rfl Z.out HF.out X1.out X2.out)
      have Y:=C6x (G4.out.put Z.out HF.out (h3 (pn:Int) (J:Int) (I:Int)).toList).cell
      refine C60 hK (by with_reducible first|exact K8.out|exact K7.out|exact Y.out|exact K5.out|exact X.out|exact K3.out|exact K2.out|exact K1.out) ?_
      clear hK K hH
      intro hH
      try simp only[Act.put]
      refine wpAnyH_done (by kernel_rfl) ?_ _
      go_wp2_with fail
      go_meet
      exact aD.out
     ·go_simp
      have aH:=C6x (C3.new w4 135 #[.int .u64 0,.int .u64 0,.int .u64 0])
      have G3:=C6x (G2.out.alloc (.cells #[.int .u64 0,.int .u64 0,.int .u64 0] 135))
      have K3:=C6x (G2.out.alloc (.cells #[.int .u64 0,.int .u64 0,.int .u64 0] 135)).cell
      have Z:=C6x (show W2.heap.size<=w4.heap.size from G2.out.ad.size)
      have HF:=C6x G2.out.newF
      refine C60 hK (by with_reducible first|exact K8.out|exact K7.out|exact Y.out|exact K5.out|exact X.out|exact K3.out|exact K2.out|exact K1.out) ?_
      clear hK K hH
      intro hH
      try simp only[Act.put,sA,sB,sC]
      refine C6z 5 rfl (λK hK=>?_)
      go_simp
      refine(G3.out.get 24 (by decide)).mono ?_
      rintro x w5 ⟨I,rfl,U,a5,e5⟩
      have aB:=C6x (aH.out.keep (a5.block _ aH.out.lt HF.out))
      have G4:=C6x U
      have X2:=C6x e5
      have X:=C6x U.cell
      clear U a5 e5
      go_wp2_with fail
      refine C60 hK (by with_reducible first|exact K8.out|exact K7.out|exact Y.out|exact K5.out|exact X.out|exact K3.out|exact K2.out|exact K1.out) ?_
      clear hK K hH
      intro hH
      try simp only[Act.put,sA,sB,sC]
      refine C6y 6 rfl ?_
      refine C6z 8 rfl (λK hK=>?_)
      refine A04 Q8 rfl (.tmp 7) (.tmp 35) rfl _ _ (h3 (pn:Int) (J:Int) (I:Int)) aB.out rfl rfl (Z8 _ _ _) rfl rfl ?_
      have aD:=C6x (A9w G4.out aB.out rfl Z.out HF.out X1.out X2.out)
      have Y:=C6x (G4.out.put Z.out HF.out (h3 (pn:Int) (J:Int) (I:Int)).toList).cell
      refine C60 hK (by with_reducible first|exact K8.out|exact K7.out|exact Y.out|exact K5.out|exact X.out|exact K3.out|exact K2.out|exact K1.out) ?_
      clear hK K hH
      intro hH
      try simp only[Act.put]
      refine wpAnyH_done (by kernel_rfl) ?_ _
      go_wp2_with fail
      go_meet
      exact aD.out
    ·go_simp
     have aQ:=C6x ((C3.new W2 135 #[.int .u64 0,.int .u64 0,.int .u64 0]).drew)
     have bI:=C6x ((G0.out.alloc (.cells #[.int .u64 0,.int .u64 0,.int .u64 0] 135)).drew)
     have K5:=C6x ((G0.out.alloc (.cells #[.int .u64 0,.int .u64 0,.int .u64 0] 135)).drew).cell
     have Z:=C6x (show W2.heap.size<=W2.heap.size from Nat.le_refl _)
     have HF:=C6x G0.out.newF
     refine C60 hK (by with_reducible first|exact K8.out|exact K7.out|exact Y.out|exact K5.out|exact X.out|exact K3.out|exact K2.out|exact K1.out) ?_
     clear hK K hH
     intro hH
     try simp only[Act.put,sA,sB,sC]
     refine C6z 3 rfl (λK hK=>?_)
     go_simp
     refine(bI.out.get 40 (by decide)).mono ?_
     rintro x w4 ⟨J,rfl,g4,a4,e4⟩
     have G2:=C6x g4
     have aH:=C6x (aQ.out.keep (a4.block _ aQ.out.lt HF.out))
     have X1:=C6x e4
     have K2:=C6x g4.cell
     clear g4 a4 e4
     go_wp2_with fail
     refine C60 hK (by with_reducible first|exact K8.out|exact K7.out|exact Y.out|exact K5.out|exact X.out|exact K3.out|exact K2.out|exact K1.out) ?_
     clear hK K hH
     intro hH
     try simp only[Act.put,sA,sB,sC]
     refine C6z 5 rfl (λK hK=>?_)
     go_simp
     refine(G2.out.get 24 (by decide)).mono ?_
     rintro x w5 ⟨I,rfl,U,a5,e5⟩
     have aB:=C6x (aH.out.keep (a5.block _ aH.out.lt HF.out))
     have G4:=C6x U
     have X2:=C6x e5
     have X:=C6x U.cell
     clear U a5 e5
     go_wp2_with fail
     refine C60 hK (by with_reducible first|exact K8.out|exact K7.out|exact Y.out|exact K5.out|exact X.out|exact K3.out|exact K2.out|exact K1.out) ?_
     clear hK K hH
     intro hH
     try simp only[Act.put,sA,sB,sC]
     refine C6y 6 rfl ?_
     refine C6z 8 rfl (λK hK=>?_)
     refine A04 Q8 rfl (.tmp 7) (.tmp 35) rfl _ _ (h3 (pn:Int) (J:Int) (I:Int)) aB.out rfl rfl (Z8 _ _ _) rfl rfl ?_
     have aD:=C6x (A9w G4.out aB.out rfl Z.out HF.out X1.out X2.out)
     have Y:=C6x (G4.out.put Z.out HF.out (h3 (pn:Int) (J:Int) (I:Int)).toList).cell
     refine C60 hK (by with_reducible first|exact K8.out|exact K7.out|exact Y.out|exact K5.out|exact X.out|exact K3.out|exact K2.out|exact K1.out) ?_
     clear hK K hH
     intro hH
     try simp only[Act.put]
     refine wpAnyH_done (by kernel_rfl) ?_ _
     go_wp2_with fail
     go_meet
     exact aD.out
   case rest=>
   obtain⟨u,J,I,rfl,hU,hG,bG,bH,hu,cC⟩:=hcut
   obtain⟨C,aK,aX⟩:=hG.bz
   obtain⟨W9,rfl⟩:∃W9,W9=wc:=⟨_,rfl⟩
   have aZ:=aK.keep (hG.ad.block z aK.lt hG.fz)
   obtain⟨E9,aN⟩:∃E,E=A4L d Vn 64:=⟨_,rfl⟩
   have bM:=C6x aN
   have bO:=C6x (λ(w:World) (h:RdS w F b d Vn 64)=>h.end_)
   have HG:=C6x hG
   have Z:=C6x hU
   have bV:=C6x (show u≠z fromλe=>by have:=aK.lt;omega)
   have aV:=C6x aZ
   have aR:=C6x aX
   have M1:=C6x (show W9.drew.cell? ⟨u,0,none⟩=some (.int .u64 (pn:Int))/\W9.drew.cell? ⟨u,1,none⟩=some (.int .u64 (J:Int))/\W9.drew.cell? ⟨u,2,none⟩=some (.int .u64 (I:Int))from hU.three)
   obtain⟨B,hB⟩:∃B,B=(E9==0):=⟨_,rfl⟩
   have cF:(E9==0)=B:=hB.symm
   have bJ:=C6x (show B=decide (d=8)by rw[hB,aN,C0v])
   have bY:=C6x bG
   have bZ:=C6x bH
   clear aN hG hU hu cC aK aZ aX bG bH hB
   go_upto_region 6 with(fail)
   refine D6 (S:=(λw'=>w'.cell? ⟨u,0,none⟩=some (.int .u64 (pn:Int))/\w'.cell? ⟨u,1,none⟩=some (.int .u64 (J:Int))/\w'.cell? ⟨u,2,none⟩=some (.int .u64 (I:Int)))) (by with_reducible first|exact M3.out|exact M2.out|exact M1.out) (λhH=>?_)
   refine C64 0 rfl ?_
   refine C64 1 rfl ?_
   refine C6z 2 rfl (λK hK=>?_)
   go_simp
   refine(bO.out _ HG.out.drew.rs).mono ?_
   rintro x w9 ⟨rfl,t9⟩
   rw[<-bM.out]
   have M2:=C6x ((Z.out.keep (t9.block u Z.out.lt (λh=>h))).three)
   have bU:=C6x (Z.out.keep (t9.block u Z.out.lt (λh=>h)))
   have aU:=C6x (aV.out.keep (t9.block z aV.out.lt (λh=>h)))
   have bT:=C6x t9
   clear t9
   go_wp2_with fail
   refine C60 hK (by with_reducible first|exact M3.out|exact M2.out|exact M1.out) ?_
   clear hK K hH
   intro hH
   try simp only[Act.put,sA,sB,sC]
   refine C64 3 rfl ?_
   refine C6z 4 rfl (λK hK=>?_)
   refine A04 Q8 rfl (.tmp 2) (.tmp 36) rfl z _ (h3 (pn:Int) (J:Int) (I:Int)) aU.out aR.out rfl (Z8 _ _ _) rfl rfl ?_
   have M3:=C6x ((bU.out.keep (L7 z bV.out (h3 (pn:Int) (J:Int) (I:Int)).toList 0 w9)).three)
   have cB:=C6x (aU.out.putAll (D:=h3 (pn:Int) (J:Int) (I:Int)) (by rw[aR.out];rfl))
   refine C60 hK (by with_reducible first|exact M3.out|exact M2.out|exact M1.out) ?_
   clear hK K hH
   intro hH
   try simp only[Act.put]
   refine C64 5 rfl ?_
   refine wpAnyH_done (by kernel_rfl) ?_ _
   obtain⟨aE,aF,aG⟩:=cB.out.three
   have aP:B0 B5 w B5 (w9.setCells z 0 (h3 (pn:Int) (J:Int) (I:Int)).toList):=(B0.lsetCells _ 0 _ ((bS.out.trans HG.out.drew.ad).over bT.out) (.inr aJ.out)).sub (λ_ h=>h.elim)
   have aC:UhR w l (.returned (.tuple #[.agg #[.int .u64 (pn:Int),.int .u64 (J:Int),.int .u64 (I:Int)],.bool B])) (w9.setCells z 0 (h3 (pn:Int) (J:Int) (I:Int)).toList):=by
    have hb:=bJ.out
    cases B with
    |false=>
     refine UhR.no pn J I ?_ aP
     rw[A1o,<-aI.out]
     refine if_neg (λh=>?_)
     have h1:=h.2.2.2
     rw[<-HD.out]at h1
     exact absurd hb.symm (by rw[decide_eq_true h1];decide)
    |true=>
     have h8:d=8:=of_decide_eq_true hb.symm
     refine UhR.yes ?_ aP
     have aY:D.length=8:=by rw[<-HD.out];exact h8
     have hv:=B4l aY aS.out
     rw[<-aT.out]at hv
     have e1:=bY.out (by omega)
     have e2:=bZ.out (by omega)
     rw[h8]at e1 e2
     rw[B5P hv]at e1
     rw[B2S]at e2
     rw[A1o,<-aI.out,if_pos ⟨bX.out,rfl,rfl,aY⟩,e1,e2,aT.out]
   have aD:=C6x aC
   clear aC aP
   go_wp2_with fail
   exact bodyPost_ret (v:=.tuple #[.agg #[.int .u64 (pn:Int),.int .u64 (J:Int),.int .u64 (I:Int)],.bool B]) (by simp[results,Tryz.results121,go_sem,aE,aF,aG]) rfl aD.out
 ·obtain rfl:E=4:=by rw[HE.out,A0t,if_neg hw]
  have bP:=C6x hw
  clear hw
  go_wp2_with (first
   |(refine Z9 Q8 rfl (.tmp 2) (.tmp 25) rfl z _ (h3 0 0 0) aA.out rfl rfl (Z8 _ _ _) rfl rfl ?_)
   |fail)
  obtain⟨aE,aF,aG⟩:=(aA.out.putAll (D:=h3 0 0 0) rfl).three
  have aC:UhR w l (.returned (.tuple #[.agg #[.int .u64 0,.int .u64 0,.int .u64 0],.bool false])) (W.setCells z 0 (h3 0 0 0).toList):=UhR.no 0 0 0 (by rw[A1o];exact if_neg (λh=>bP.out h.1)) (B0.lsetCells _ 0 _ (HA.out.trans HT.out) (.inr aJ.out))
  exact bodyPost_ret (v:=.tuple #[.agg #[.int .u64 0,.int .u64 0,.int .u64 0],.bool false]) (by simp[results,Tryz.results121,go_sem,aE,aF,aG]) rfl aC
end
section
open Go.RowKit
def J8(m:Nat):Nat:=max 1 ((m+105)/106)
theorem A1p(m:Nat):1<=J8 m:=Nat.le_max_left _ _
theorem B0N(m:Nat):m<=J8 m * 106:=by
 have:=Nat.le_max_right 1 ((m+105)/106)
 unfold J8;omega
theorem B0P{m k:Nat}(I:1<=k)(h:m<=k * 106):J8 m<=k:=by
 unfold J8;omega
def D7(e c:Nat)(l:List Nat)(i:Nat):Pc:=⟨e,c+i,i==0,i==J8 l.length-1,(l.drop (i * 106)).take 106⟩
def Q5(e c:Nat)(l:List Nat):List Pc:=(List.range (J8 l.length)).map (D7 e c l)
theorem Q1(e c:Nat)(l:List Nat):(Q5 e c l).length=J8 l.length:=by simp[Q5]
theorem A3Z(e c:Nat)(l:List Nat){i:Nat}(h:i<J8 l.length):(Q5 e c l)[i]'(by rw[Q1];exact h)=D7 e c l i:=by simp[Q5]
def V2(e c m:Nat):Int:=if e<=16777215/\c<=1099511627775/\J8 m-1<=1099511627775-c then(if m<=8192 then 0 else 5)else 2
def A2c(e c:Nat)(l:List Nat):List Pc:=if V2 e c l.length=0 then Q5 e c l else []
theorem C0w{k:IntKind}{a b:Int}(h:a=b):Ending.returned (.int k a)= .returned (.int k b):=by rw[h]
theorem A63(m:Nat)(w:World)(J:m<=1000000000):Calls Tryz.prog 196 #[.int .i64 (m:Int)] w λx w'=>x= .returned (.int .i64 (J8 m:Int))/\w=w':=by
 have U:(m:Int)<=1000000000:=by omega
 have e:((J8 m:Nat):Int)=max 1 (((m:Int)+105)/106):=by unfold J8;omega
 have I:=C6x e
 clear J e
 go_enter Tryz.func196,Tryz.ntmps196
 go_wp2_with fail
 all_goals
  go_ret
  exact⟨C0w (by rw[I.out];omega),rfl⟩
def PRd(w:World)(v:Value)(ps:List Pc):Prop:=
 ∃A k,v= .slice A ps.length k/\ps.length<=k/\k<=maxLen/\(0<ps.length->∃b o,A=some ⟨b,o,none⟩/\b<w.heap.size/\∀i (h:i<ps.length),∃a q,
  w.cell? ⟨b,o+(i * 5+0),none⟩=some (.int .u64 (ps[i].e:Int))/\w.cell? ⟨b,o+(i * 5+1),none⟩=some (.int .u64 (ps[i].c:Int))/\w.cell? ⟨b,o+(i * 5+2),none⟩=some (.bool ps[i].f)/\w.cell? ⟨b,o+(i * 5+3),none⟩=some (.bool ps[i].g)/\
  w.cell? ⟨b,o+(i * 5+4),none⟩=some (.slice a ps[i].d.length q)/\Rd w 1 (.slice a ps[i].d.length q) ps[i].d.length (ps[i].d.map u8))
theorem PRd.nil(w:World):PRd w (.slice none 0 0) []:=⟨none,0,rfl,Nat.le_refl _,Nat.zero_le _,λh=>absurd h (by decide)⟩
theorem PRd.step{w w':World}{v:Value}{ps:List Pc}{F':Nat->Prop}(h:PRd w v ps)(I:B0 B5 w F' w'):PRd w' v ps:=by
 obtain⟨A,k,rfl,X,Y,h3⟩:=h
 refine⟨A,k,rfl,X,Y,λhn=>?_⟩
 obtain⟨b,o,rfl,J,Z⟩:=h3 hn
 have hk:w'.heap[b]? =w.heap[b]? :=I.block b J (λh=>h)
 refine⟨b,o,rfl,Nat.lt_of_lt_of_le J I.size,λi hi=>?_⟩
 obtain⟨a,q,U,c1,c2,c3,c4,hr⟩:=Z i hi
 have e:∀j,w'.cell? ⟨b,j,none⟩=w.cell? ⟨b,j,none⟩:=λj=>World.cell?_of_block hk
 exact⟨a,q,by rw[e];exact U,by rw[e];exact c1,by rw[e];exact c2,by rw[e];exact c3,by rw[e];exact c4,hr.far (λ_ _ _ h=>I.block _ h (λh=>h)) I.size⟩
end
section
open Go.RowKit
def M6(ps:List Pc):List Nat:=ps.flatMap (λp=>p.d)
theorem A8z(p:Pc)(ps:List Pc):M6 (p::ps)=p.d++M6 ps:=by simp[M6]
def hdP(ps:List Pc):Pc:=ps.headD B72
def B2U(n J I i:Nat)(p:Pc):Prop:=p.e<=16777215/\p.e=J/\p.c<=1099511627775/\p.c=I+i/\p.f=(i==0)/\p.g=(i==n-1)/\(p.d.length=106\/(i=n-1/\p.d.length<106/\(0<p.d.length\/i=0)))
def Y7(ps:List Pc):Prop:=0<ps.length/\(∀i (h:i<ps.length),B2U ps.length (hdP ps).e (hdP ps).c i ps[i])/\(M6 ps).length<=8192
instance (n e0 c0 i:Nat) (p:Pc):Decidable (B2U n e0 c0 i p):=by unfold B2U;exact inferInstance
instance (ps:List Pc):Decidable (Y7 ps):=by unfold Y7;exact inferInstance
def A3j(ps:List Pc):List Nat:=if Y7 ps then M6 ps else []
def A64(ps:List Pc):Int:=if Y7 ps then 0 else 4
def C1Z(ps:List Pc):Prop:=0<ps.length/\(M6 ps).length<=8192/\V2 (hdP ps).e (hdP ps).c (M6 ps).length=0/\Q5 (hdP ps).e (hdP ps).c (M6 ps)=ps
theorem A5x(e c:Nat)(l:List Nat):∀k,M6 ((List.range k).map (D7 e c l))=l.take (k * 106)
 |0=>by simp[M6]
 |k+1=>by
  have I:=A5x e c l k
  unfold M6 at I⊢
  rw[List.range_succ,List.map_append,List.flatMap_append,I,show(k+1) * 106=k * 106+106 by omega,List.take_add]
  simp[D7]
theorem A4a(e c:Nat)(l:List Nat):M6 (Q5 e c l)=l:=by
 rw[Q5,A5x]
 exact List.take_of_length_le (B0N _)
theorem A2K{e c m:Nat}:V2 e c m=0↔e<=16777215/\c<=1099511627775/\J8 m-1<=1099511627775-c/\m<=8192:=by
 unfold V2
 constructor
 ·intro h
  split at h
  ·next I=>
   split at h
   ·next J=>exact⟨I.1,I.2.1,I.2.2,J⟩
   ·simp at h
  ·simp at h
 ·rintro⟨I,J,h3,U⟩
  rw[if_pos ⟨I,J,h3⟩,if_pos U]
theorem B5U{e c:Nat}{l:List Nat}(h:V2 e c l.length=0):C1Z (Q5 e c l):=by
 have Y:=A1p l.length
 have X:(Q5 e c l).length=J8 l.length:=Q1 e c l
 have U:hdP (Q5 e c l)=D7 e c l 0:=by
  obtain⟨p,t,I⟩:∃p t,Q5 e c l=p::t:=List.exists_cons_of_length_pos (by omega)
  have J:=A3Z e c l (i:=0) (by omega)
  rw[hdP,I]
  simp only[I,List.getElem_cons_zero]at J
  simpa using J
 refine⟨by omega,?_,?_,?_⟩
 ·rw[A4a];exact(A2K.mp h).2.2.2
 ·rw[U,A4a];simpa[D7]using h
 ·rw[U,A4a];simp[D7]
theorem A65:∀(i:Nat) (ps:List Pc),i<=ps.length->(∀j (h:j<ps.length),j<i->ps[j].d.length=106)->(M6 ps).drop (i * 106)=M6 (ps.drop i)
 |0,ps,_,_=>by simp
 |i+1,[],h,_=>by simp at h
 |i+1,p::ps,h,hl=>by
  have J:p.d.length=106:=hl 0 (by simp) (by omega)
  rw[A8z,show(i+1) * 106=p.d.length+i * 106 by omega,<-List.drop_drop,List.drop_left]
  simpa using A65 i ps (by simpa using h) (λj I U=>hl (j+1) (by simpa using I) (by omega))
theorem C0x{n m k:Nat}(J:0<n)(e:m=(n-1) * 106+k)(I:k=106\/(k<106/\(0<k\/n-1=0))):J8 m=n:=by
 unfold J8
 omega
theorem A4b(ps:List Pc):C1Z ps↔Y7 ps:=by
 constructor
 ·rintro⟨J,I,h3,h4⟩
  obtain⟨k1,k2,k3,k4⟩:=A2K.mp h3
  have hn:ps.length=J8 (M6 ps).length:=by rw[<-Q1 (hdP ps).e (hdP ps).c (M6 ps),h4]
  refine⟨J,λi hi=>?_,I⟩
  have aB:ps[i]=D7 (hdP ps).e (hdP ps).c (M6 ps) i:=by
   have:=A3Z (hdP ps).e (hdP ps).c (M6 ps) (i:=i) (by omega)
   rw[<-this]
   congr 1
   exact h4.symm
  rw[aB,hn]
  refine⟨k1,rfl,?_,rfl,rfl,rfl,?_⟩
  ·show(hdP ps).c+i<=_
   omega
  ·have hl:(D7 (hdP ps).e (hdP ps).c (M6 ps) i).d.length=min 106 ((M6 ps).length-i * 106):=by simp[D7]
   have aD:i<J8 (M6 ps).length:=by omega
   show(D7 (hdP ps).e (hdP ps).c (M6 ps) i).d.length=106\/_
   rw[hl]
   unfold J8 at aD⊢
   omega
 ·rintro⟨J,I,h3⟩
  have X:∀j (h:j<ps.length),j<ps.length-1->ps[j].d.length=106:=λj h hj=>by
   rcases(I j h).2.2.2.2.2.2 with a|a
   ·exact a
   ·omega
  have aI:=(I (ps.length-1) (by omega)).2.2.2.2.2.2
  have hd:=A65 (ps.length-1) ps (by omega) X
  have aF:ps.drop (ps.length-1)=[ps[ps.length-1]]:=by
   rw[List.drop_eq_getElem_cons (by omega),List.drop_of_length_le (by omega)]
  have aE:(M6 ps).length=(ps.length-1) * 106+ps[ps.length-1].d.length:=by
   have e:=congrArg List.length hd
   rw[aF]at e
   simp only[List.length_drop,M6,List.flatMap_cons,List.flatMap_nil,List.append_nil]at e
   have hk:0<ps[ps.length-1].d.length\/ps.length-1=0:=by omega
   unfold M6
   omega
  have aA:J8 (M6 ps).length=ps.length:=C0x J aE (by omega)
  have U:=I 0 J
  have Z:=I (ps.length-1) (by omega)
  have hE:V2 (hdP ps).e (hdP ps).c (M6 ps).length=0:=by
   refine A2K.mpr ⟨?_,?_,?_,h3⟩
   ·rw[<-U.2.1];exact U.1
   ·have a:=U.2.2.1
    have b:=U.2.2.2.1
    omega
   ·have a:=Z.2.2.1
    have b:=Z.2.2.2.1
    omega
  refine⟨J,h3,hE,?_⟩
  apply List.ext_getElem
  ·rw[Q1];exact aA
  ·intro i aH Y
   rw[A3Z _ _ _ (by omega)]
   obtain⟨a1,a2,a3,a4,a5,a6,a7⟩:=I i Y
   have aC:=A65 i ps (by omega) (λj h hj=>X j h (by omega))
   have aG:((M6 ps).drop (i * 106)).take 106=ps[i].d:=by
    rw[aC,List.drop_eq_getElem_cons Y,A8z]
    rcases Nat.lt_or_ge i (ps.length-1)with c|c
    ·rw[List.take_left' (X i Y c)]
    ·rw[List.drop_of_length_le (by omega)]
     show(ps[i].d++[]).take 106=_
     rw[List.append_nil,List.take_of_length_le (by omega)]
   unfold D7
   rw[aA,aG,<-a2,<-a4,<-a5,<-a6]
theorem A9y(ps:List Pc)(k:Nat):(M6 (ps.take k)).length<=(M6 ps).length:=by
 have h:M6 ps=M6 (ps.take k)++M6 (ps.drop k):=by
  unfold M6
  rw[<-List.flatMap_append,List.take_append_drop]
 rw[h,List.length_append]
 omega
theorem A2d{ps:List Pc}{k:Nat}{p:Pc}(h:ps[k]? =some p):M6 (ps.take (k+1))=M6 (ps.take k)++p.d:=by
 rw[List.take_add_one,h]
 simp[M6]
theorem C0y{ps:List Pc}(h:∀p∈ps,∀x∈p.d,x<256):∀x∈M6 ps,x<256:=by
 intro x I
 obtain⟨p,J,I⟩:=List.mem_flatMap.mp I
 exact h p J x I
theorem C0z{e c:Nat}{l:List Nat}(h:∀x∈l,x<256):∀p∈A2c e c l,∀x∈p.d,x<256:=by
 intro p I x J
 unfold A2c at I
 split at I
 ·obtain⟨i,_,rfl⟩:=List.mem_map.mp I
  exact h x (List.mem_of_mem_drop (List.mem_of_mem_take J))
 ·simp at I
end
section
open Go.RowKit
def wN(l:List (Nat×Nat)):Nat:=l.foldl (λa d=>a * 2^d.2+d.1) 0
def wL(l:List (Nat×Nat)):Nat:=l.foldl (λa d=>a+d.2) 0
def B2V(l:List (Nat×Nat)):Prop:=∀d∈l,d.1<2^d.2
theorem A4c(l:List (Nat×Nat))(d:Nat×Nat):wN (l++[d])=wN l * 2^d.2+d.1:=by simp[wN]
theorem A1D(l:List (Nat×Nat))(d:Nat×Nat):wL (l++[d])=wL l+d.2:=by simp[wL]
theorem B4r{α:Type}{I:List α->Prop}(nil:I [])(app:∀l a,I l->I (l++[a]))(l:List α):I l:=by
 have h:∀m:List α,I m.reverse:=by
  intro m
  induction m with
  |nil=>exact nil
  |cons a m ih=>rw[List.reverse_cons];exact app _ _ ih
 have:=h l.reverse
 rwa[List.reverse_reverse]at this
theorem A1q(l1 l2:List (Nat×Nat)):wL (l1++l2)=wL l1+wL l2:=by
 induction l2 using B4r with
 |nil=>simp[wL]
 |app l2 d ih=>rw[<-List.append_assoc,A1D,A1D,ih,Nat.add_assoc]
theorem B5V(l1 l2:List (Nat×Nat)):wN (l1++l2)=wN l1 * 2^wL l2+wN l2:=by
 induction l2 using B4r with
 |nil=>simp[wL,wN]
 |app l2 d ih=>rw[<-List.append_assoc,A4c,A4c,A1D,ih,Nat.add_mul,Nat.pow_add,Nat.mul_assoc,Nat.add_assoc]
theorem C2a(l:List (Nat×Nat))(h:B2V l):wN l<2^wL l:=by
 induction l using B4r with
 |nil=>simp[wN,wL]
 |app l d ih=>rw[A4c,A1D];exact B7z _ _ _ _ (ih (λx I=>h x (by simp[I]))) (h d (by simp))
theorem B7H(N v k r m I q V a T:Nat)(U:r<2^m)(hv:v<2^k)(X:8 * q=T+I)(Y:T=a+k+m)(J:V=((N * 2^k+v) * 2^m+r) * 2^I):C4 q V a k=v:=by
 unfold C4
 rw[show 8 * q-a-k=m+I from by omega,J,Nat.pow_add,Nat.mul_comm (2^m) (2^I),<-Nat.div_div_eq_div_mul,Nat.mul_div_cancel _ (Nat.two_pow_pos _),Nat.add_comm,Nat.add_mul_div_right _ _ (Nat.two_pow_pos _),Nat.div_eq_of_lt U,Nat.zero_add,Nat.add_comm,Nat.add_mul_mod_self_right,Nat.mod_eq_of_lt hv]
theorem C00(l1 l2:List (Nat×Nat))(d:Nat×Nat)(h:B2V (l1++d::l2)):
 C4 (qn (wL (l1++d::l2))) (wN (l1++d::l2) * 2^pad (wL (l1++d::l2))) (wL l1) d.2=d.1:=by
 have e:l1++d::l2=(l1++[d])++l2:=by simp
 have I:=B5V (l1++[d]) l2
 rw[A4c]at I
 have J:=A1q (l1++[d]) l2
 rw[A1D]at J
 rw[e]
 exact B7H (wN l1) d.1 d.2 (wN l2) (wL l2) (pad (wL ((l1++[d])++l2))) _ _ _ (wL ((l1++[d])++l2)) (C2a l2 (λx U=>h x (by simp[U]))) (h d (by simp)) (A6p _) J (by rw[I])
structure Pt where
 a:Int
 d:List Nat
def A0h(ps:List Pt)(h:Int):Prop:=(1<=ps.length/\ps.length<=24)/\∀i (hi:i<ps.length),(0<=ps[i].a/\ps[i].a<h)/\ps[i].d.length=128/\∀k (I:k<i),ps[k].a≠ps[i].a
instance (ps:List Pt) (h:Int):Decidable (A0h ps h):=by unfold A0h;exact inferInstance
def bW(x:Nat):Nat×Nat:=(x,8)
def pW(p:Pt):List (Nat×Nat):=(p.a.toNat,12)::p.d.map bW
def A0u(ps:List Pt):List (Nat×Nat):=(ps.length,8)::ps.flatMap pW
def L8(ps:List Pt):List Nat:=V1 (wN (A0u ps)) (wL (A0u ps))
theorem A66(l:List Nat):wL (l.map bW)=8 * l.length:=by
 induction l using B4r with
 |nil=>rfl
 |app l x ih=>rw[List.map_append,List.map_singleton,A1D,ih,List.length_append];simp[bW];omega
theorem A2L(d:Nat×Nat)(l:List (Nat×Nat)):wL (d::l)=d.2+wL l:=by
 have:=A1q [d] l
 simpa[wL]using this
theorem C23{p:Pt}(h:p.d.length=128):wL (pW p)=1036:=by rw[pW,A2L,A66,h]
theorem A5Y:∀(ps:List Pt),(∀p∈ps,p.d.length=128)->wL (ps.flatMap pW)=1036 * ps.length
 |[],_=>rfl
 |p::ps,h=>by
  rw[List.flatMap_cons,A1q,C23 (h p (by simp)),A5Y ps (λq I=>h q (by simp[I])),List.length_cons];omega
theorem B7J{ps:List Pt}(h:∀p∈ps,p.d.length=128):wL (A0u ps)=8+1036 * ps.length:=by rw[A0u,A2L,A5Y ps h]
theorem A0h.row{ps:List Pt}{h:Int}(k:A0h ps h):∀p∈ps,(0<=p.a/\p.a<h)/\p.d.length=128:=λp I=>by
 obtain⟨i,hi,rfl⟩:=List.getElem_of_mem I
 exact⟨(k.2 i hi).1,(k.2 i hi).2.1⟩
theorem A0h.mono{ps:List Pt}{h I:Int}(k:A0h ps h)(J:h<=I):A0h ps I:=⟨k.1,λi hi=>⟨⟨(k.2 i hi).1.1,by have:=(k.2 i hi).1.2;omega⟩,(k.2 i hi).2⟩⟩
theorem A5y{ps:List Pt}(h:∀p∈ps,p.d.length=128):(L8 ps).length=qn (8+1036 * ps.length):=by rw[L8,V1,C7,B7J h]
theorem B4s(ps:List Pt):∀x∈L8 ps,x<256:=λx I=>A3T _ _ x I
theorem A33{ps:List Pt}{h:Int}(k:A0h ps h):(L8 ps).length<=3109:=by
 rw[A5y (λp I=>(k.row p I).2),qn]
 have:=k.1.2
 omega
def M7(ps:List Pt):Nat:=J8 (L8 ps).length
def B2W(l:List Nat):Nat:=C4 l.length (R8 l) 0 8
def C01(l:List Nat)(i:Nat):Nat:=C4 l.length (R8 l) (8+1036 * i) 12
def B7K(l:List Nat)(i k:Nat):Nat:=C4 l.length (R8 l) (20+1036 * i+8 * k) 8
def C02(l:List Nat)(i:Nat):Pt:=⟨(C01 l i:Int),(List.range 128).map (B7K l i)⟩
def B0Q(l:List Nat):List Pt:=(List.range (B2W l)).map (C02 l)
def A7Y(l:List Nat):Int:=A4L l.length (R8 l) (8+1036 * B2W l)
theorem B2X{l:List Nat}(h:∀x∈l,x<256):B2V (l.map bW):=λd I=>by
 obtain⟨x,J,rfl⟩:=List.mem_map.mp I
 exact h x J
theorem B7L{p:Pt}(U:0<=p.a)(X:p.a<4096)(J:∀x∈p.d,x<256):B2V (pW p):=λd I=>by
 rcases List.mem_cons.mp I with rfl|I
 ·show p.a.toNat<4096
  omega
 ·exact B2X J d I
theorem B7M{ps:List Pt}{h:Int}(k:A0h ps h)(X:h<=4096)(U:∀p∈ps,∀x∈p.d,x<256):B2V (A0u ps):=λd I=>by
 rcases List.mem_cons.mp I with rfl|I
 ·show ps.length<256
  have:=k.1.2
  omega
 ·obtain⟨p,J,I⟩:=List.mem_flatMap.mp I
  have:=(k.row p J).1
  exact B7L this.1 (by omega) (U p J) d I
theorem B4t{ps:List Pt}(h:B2V (A0u ps)):R8 (L8 ps)=wN (A0u ps) * 2^pad (wL (A0u ps)):=by
 rw[L8,V1,A6q]
 refine Nat.mod_eq_of_lt ?_
 have e:(256:Nat)^qn (wL (A0u ps))=2^wL (A0u ps) * 2^pad (wL (A0u ps)):=by
  rw[show(256:Nat)=2^8 from rfl,<-Nat.pow_mul,A6p,Nat.pow_add]
 rw[e]
 exact Nat.mul_lt_mul_of_pos_right (C2a _ h) (Nat.two_pow_pos _)
theorem B5W{ps:List Pt}{i:Nat}(hi:i<ps.length):A0u ps=((ps.length,8)::(ps.take i).flatMap pW)++(pW ps[i]++(ps.drop (i+1)).flatMap pW):=by
 have e:ps=ps.take i++(ps[i]::ps.drop (i+1)):=by rw[List.getElem_cons_drop,List.take_append_drop]
 have I:ps.flatMap pW=(ps.take i).flatMap pW++(pW ps[i]++(ps.drop (i+1)).flatMap pW):=by
  have:=congrArg (List.flatMap pW) e
  rwa[List.flatMap_append,List.flatMap_cons]at this
 rw[A0u,I,List.cons_append]
theorem A67{ps:List Pt}(h:B2V (A0u ps)){l1 l2:List (Nat×Nat)}{d:Nat×Nat}(e:A0u ps=l1++d::l2):C4 (L8 ps).length (R8 (L8 ps)) (wL l1) d.2=d.1:=by
 have I:=C00 l1 l2 d (by rw[<-e];exact h)
 rw[<-e]at I
 rw[B4t h,L8,V1,C7]
 exact I
theorem B7N{ps:List Pt}{h:Int}(k:A0h ps h)(hh:h<=4096)(hd:∀p∈ps,∀x∈p.d,x<256):B0Q (L8 ps)=ps/\A7Y (L8 ps)=0:=by
 have J:=B7M k hh hd
 have X:∀p∈ps,p.d.length=128:=λp I=>(k.row p I).2
 have Y:B2W (L8 ps)=ps.length:=A67 J (l1:=[]) (l2:=ps.flatMap pW) (d:=(ps.length,8)) rfl
 constructor
 ·unfold B0Q
  rw[Y]
  apply List.ext_getElem
  ·simp
  ·intro i aE U
   have aB:=(k.row ps[i] (List.getElem_mem U)).1
   have aC:=X ps[i] (List.getElem_mem U)
   have Z:wL ((ps.length,8)::(ps.take i).flatMap pW)=8+1036 * i:=by
    rw[A2L,A5Y _ (λp I=>X p (List.mem_of_mem_take I)),List.length_take,Nat.min_eq_left (by omega)]
   have aA:=B5W U
   have ha:C01 (L8 ps) i=ps[i].a.toNat:=by
    have:=A67 J (l1:=(ps.length,8)::(ps.take i).flatMap pW) (d:=(ps[i].a.toNat,12)) (l2:=ps[i].d.map bW++(ps.drop (i+1)).flatMap pW) (by rw[aA,pW];rfl)
    rw[Z]at this
    exact this
   have hx:(List.range 128).map (B7K (L8 ps) i)=ps[i].d:=by
    apply List.ext_getElem
    ·simp[aC]
    ·intro j aF aG
     simp only[List.getElem_map,List.getElem_range]
     have aD:ps[i].d=ps[i].d.take j++(ps[i].d[j]::ps[i].d.drop (j+1)):=by rw[List.getElem_cons_drop,List.take_append_drop]
     have:=A67 J (l1:=((ps.length,8)::(ps.take i).flatMap pW)++((ps[i].a.toNat,12)::(ps[i].d.take j).map bW)) (d:=bW ps[i].d[j]) (l2:=(ps[i].d.drop (j+1)).map bW++(ps.drop (i+1)).flatMap pW) (by
      have e3:ps[i].d.map bW=(ps[i].d.take j).map bW++(bW ps[i].d[j]::(ps[i].d.drop (j+1)).map bW):=by
       have:=congrArg (List.map bW) aD
       rwa[List.map_append,List.map_cons]at this
      rw[aA,pW,e3]
      simp only[List.append_assoc,List.cons_append])
     rw[A1q,Z,A2L,A66,List.length_take,Nat.min_eq_left (by omega)]at this
     have e4:8+1036 * i+(12+8 * j)=20+1036 * i+8 * j:=by omega
     have e5:((ps[i].a.toNat,12):Nat×Nat).2=12:=rfl
     rw[e5,e4]at this
     exact this
   simp only[List.getElem_map,List.getElem_range]
   unfold C02
   rw[ha,hx,Int.toNat_of_nonneg aB.1]
 ·have hq:(L8 ps).length=qn (wL (A0u ps)):=by rw[L8,V1,C7]
  have hw:=B7J X
  have h1:=A6p (wL (A0u ps))
  have I:=B2L (wL (A0u ps))
  unfold A7Y A4L
  rw[Y,<-hw,if_pos (by rw[hq];omega),B4t J,hq]
  unfold A3i
  rw[show 8 * qn (wL (A0u ps))-wL (A0u ps)=pad (wL (A0u ps))from by omega,if_pos ⟨I,Nat.mul_mod_left _ _⟩]
end
end Go.Proofs.YtbefmjiclpobjaaGreat
