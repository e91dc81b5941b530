import Derived.Test.YtbefmjiclpobjaaGreatMj15
import Derived.Lib.Bytealg
import Derived.Lib.Walk
import Derived.ArgAppend
import Derived.Deep.Slices
import Derived.Deep.Fields
import Derived.BigQuiet
import Derived.Deep.QuietTactic
import Derived.Lib.AppendZeros
import Derived.Test.YtbefmjiclpobjaaGreatMj09
import Derived.Test.YtbefmjiclpobjaaGreatMj12
namespace Go.Proofs.YtbefmjiclpobjaaGreat
set_option maxHeartbeats 3200000
set_option maxRecDepth 3000
section
open Go.ChangeShapes Go.WideShapes Go.ChangeAt Go.RowKit
def cI(a b:ByteArray):Int:=Lib.compareBytes a.data.toList b.data.toList
theorem C2V:∀(a b:List UInt8),(Lib.compareBytes a b<0↔a<b)/\(Lib.compareBytes a b=0↔a=b)/\ -1<=Lib.compareBytes a b/\Lib.compareBytes a b<=1
 |[],[]=>by simp[Lib.compareBytes]
 |[],_::_=>by simp[Lib.compareBytes]
 |_::_,[]=>by simp[Lib.compareBytes]
 |a::x,b::y=>by
  have U:=C2V x y
  unfold Lib.compareBytes
  by_cases J:a<b
  ·have I:a≠b:=λe=>by subst e;exact UInt8.lt_irrefl a J
   simp[J,I,List.cons_lt_cons_iff]
  ·by_cases I:b<a
   ·have h3:a≠b:=λe=>by subst e;exact UInt8.lt_irrefl a I
    simp[J,I,h3,List.cons_lt_cons_iff]
   ·obtain rfl:a=b:=UInt8.le_antisymm (UInt8.not_lt.1 I) (UInt8.not_lt.1 J)
    simpa[List.cons_lt_cons_iff]using U
theorem C4D(a b:ByteArray):decide (cI a b<0)=decide (ltS a b):=by
 unfold cI ltS
 exact decide_eq_decide.2 (C2V _ _).1
theorem C4E(a b:ByteArray):(cI a b==0)=decide (a=b):=by
 have h:=(C2V a.data.toList b.data.toList).2.1
 by_cases e:a=b
 ·subst e;rw[decide_eq_true rfl];unfold cI;rw[h.2 rfl];rfl
 ·rw[decide_eq_false e,beq_eq_false_iff_ne];exactλc=>e (A0i (h.1 c))
theorem B8R(a b:ByteArray)(w:World):Calls Tryz.prog 203 #[.string a,.string b] w λe w'=>e= .returned (.int .i64 (cI a b))/\w=w':=by
 go_enter Tryz.func203,Tryz.ntmps203
 go_wp2
 rw[run_callFunc_extern Tryz.func219 (by kernel_rfl) (by kernel_rfl) (by kernel_rfl) (e:=Extern.BytealgCompare.compare) (by kernel_rfl),Lib.run_compareString]
 simp only[Result.andThen]
 rw[Oper.upon_value]
 go_wp2
 go_ret
 exact⟨rfl,rfl⟩
theorem B8S(a b:ByteArray)(w:World):Calls Tryz.prog 179 #[.string a,.string b] w λe w'=>e= .returned (.int .i64 (cI a b))/\w=w':=by
 go_enter Tryz.func179,Tryz.ntmps179
 go_wp2_with (go_at_call 203;refine(B8R _ _ _).mono ?_;rintro e w' ⟨rfl,rfl⟩)
 go_ret
 exact⟨rfl,rfl⟩
theorem B17(e:En)(s:ByteArray)(w:World):Calls Tryz.prog 178 #[.agg (ea e),.string s] w λx w'=>x= .returned (.int .i64 (cI e.s s))/\B0 B5 w B5 w':=by
 have J:=C6x ((B0.refl B5 w).alloc (.cells (ea e) 74))
 obtain⟨I,i,g,k⟩:=e
 have U:(w.alloc (.cells (ea ⟨I,i,g,k⟩) 74)).cell? ⟨w.heap.size,0,none⟩=some (.string I):=(C3.new w 74 (ea ⟨I,i,g,k⟩)).e4.all.1
 go_enter Tryz.func178,Tryz.ntmps178
 go_wp2_with (first
  |(go_at_call 179;refine(B8S _ _ _).mono ?_;rintro e w' ⟨rfl,rfl⟩)
  |fail)
 go_ret
 exact⟨rfl,J.out⟩
def BiL(w:World)(l:List En)(s:ByteArray)(t9 t10:Value)(wr:World):Prop:=∃i j:Nat,i<=j/\j<=l.length/\t9= .int .i64 (i:Int)/\t10= .int .i64 (j:Int)/\(∀(k:Nat) (x:En),l[k]? =some x->k<i->ltS x.s s)/\(∀(k:Nat) (x:En),l[k]? =some x->j<=k->¬ltS x.s s)/\B0 B5 w B5 wr
def C2W(w:World)(l:List En)(s:ByteArray)(x:Ending)(w':World):Prop:=∃(p:Nat) (F:Bool),A0V l s p F/\x= .returned (.tuple #[.int .i64 (p:Int),.bool F])/\B0 B5 w B5 w'
theorem B6A(v:Value)(l:List En)(s:ByteArray)(w:World)(h:M0 w v l)(hr:Ris l)(hl:l.length<=1000):Calls Tryz.prog 177 #[v,.string s,.func (.func 178) #[] #[]] w (C2W w l s):=by
 obtain⟨A,c,rfl,aQ,aN⟩:=h.form
 obtain⟨N,hN⟩:∃N,N=l.length:=⟨_,rfl⟩
 rw[<-hN]at h hl⊢
 have HH:=C6x h
 have J:=C6x hN
 have HR:=C6x hr
 have aU:(N:Int)<=1000:=by omega
 clear h hr aQ aN hN hl
 go_enter Tryz.func177,Tryz.ntmps177
 go_wp2_with fail
 go_loopw [9,10] (BiL w l s) (λt u _=>(intOf u).toNat-(intOf t).toNat)
 case atStart=>exact⟨0,N,Nat.zero_le _,by rw[J.out];exact Nat.le_refl _,rfl,rfl,λk x _ h=>absurd h (Nat.not_lt_zero _),λk x h1 h2=>absurd (List.getElem?_eq_some_iff.1 h1).1 (by rw[<-J.out];omega),B0.refl _ _⟩
 case round=>
  obtain⟨i,j,aK,W,rfl,rfl,aL,aJ,ha⟩:=hrel
  rw[<-J.out]at W
  have aE:=C6x aL
  have aD:=C6x aJ
  have Y:=C6x ha
  clear aL aJ ha
  by_cases U:i<j
  ·have aO:(i:Int)<(j:Int):=by omega
   obtain⟨m,hm⟩:∃m,m=(i+j)/2:=⟨_,rfl⟩
   have aH:i<=m/\m<j:=by omega
   have aP:(j:Int)<=1000:=by omega
   go_upto_region 5 with(fail)
   rw[show((i:Int)+(j:Int))/2=(m:Int)by omega]
   have aI:m<l.length:=by rw[<-J.out];omega
   have aT:(m:Int)<(N:Int):=by rw[J.out];omega
   obtain⟨b,o,rfl,hb,g0,g1,g2,g3⟩:=(HH.out.step Y.out).at_ J.out aI
   have I:=List.getElem?_eq_getElem aI
   obtain⟨e,he⟩:∃e,e=l[m]:=⟨_,rfl⟩
   rw[<-he]at g0 g1 g2 g3 I
   obtain⟨q,X⟩:∃q,q=cI e.s s:=⟨_,rfl⟩
   have Z:=C6x (B17 e s wr)
   rw[<-X]at Z
   have HX:=C6x I
   have aA:=C6x (show i<=m/\m<j/\j<=N from⟨aH.1,aH.2,W⟩)
   have aM:(decide (q<0))=decide (ltS e.s s):=by rw[X,C4D]
   have HQ:=C6x aM
   clear aI he X aM I hm aH hb aK W U aO aP
   obtain⟨s0,i0,g,k0⟩:=e
   simp only at g0 g1 g2 g3 HQ
   by_cases U:ltS s0 s
   ·have aR:q<0:=by have:=HQ.out;rw[decide_eq_true U]at this;exact of_decide_eq_true this
    have aC:=C6x U
    clear U
    go_wp2_with (first
     |(go_at_call 178;refine Z.out.mono ?_;rintro x w2 ⟨rfl,V⟩;have aB:=C6x (Y.out.trans V);clear V)
     |fail)
    refine⟨⟨m+1,j,by have:=aA.out;omega,by rw[<-J.out];exact aA.out.2.2,by go_num,rfl,λk x I hk=>?_,aD.out,aB.out⟩,by have:=aA.out;simp[intOf]<;>omega⟩
    by_cases e:k=m
    ·subst e;rw[HX.out]at I;rw[<-Option.some.inj I];exact aC.out
    ·exact A0a (HR.out.lt I HX.out (by omega)) aC.out
   ·have aR:¬q<0:=by have:=HQ.out;rw[decide_eq_false U]at this;exact of_decide_eq_false this
    have aC:=C6x U
    clear U
    go_wp2_with (first
     |(go_at_call 178;refine Z.out.mono ?_;rintro x w2 ⟨rfl,V⟩;have aB:=C6x (Y.out.trans V);clear V)
     |fail)
    refine⟨⟨i,m,by have:=aA.out;omega,by have:=aA.out;have:=J.out;omega,rfl,rfl,aE.out,λk x I hk=>?_,aB.out⟩,by have:=aA.out;simp[intOf]<;>omega⟩
    by_cases e:k=m
    ·subst e;rw[HX.out]at I;rw[<-Option.some.inj I];exact aC.out
    ·exactλc=>aC.out (A0a (HR.out.lt HX.out I (by omega)) c)
  ·obtain rfl:j=i:=by omega
   clear aK U
   by_cases aF:j<N
   ·have aG:j<l.length:=by rw[<-J.out];exact aF
    have aS:(j:Int)<(N:Int):=by omega
    obtain⟨b,o,rfl,hb,g0,g1,g2,g3⟩:=(HH.out.step Y.out).at_ J.out aG
    have I:=List.getElem?_eq_getElem aG
    obtain⟨e,he⟩:∃e,e=l[j]:=⟨_,rfl⟩
    rw[<-he]at g0 g1 g2 g3 I
    obtain⟨q,X⟩:∃q,q=cI e.s s:=⟨_,rfl⟩
    have Z:=C6x (B17 e s wr)
    rw[<-X]at Z
    obtain⟨F,hF⟩:∃F,F=decide (e.s=s):=⟨_,rfl⟩
    have aV:(q==0)=F:=by rw[hF,X,C4E]
    have HF:=C6x (show A0V l s j F from⟨by rw[<-J.out];exact W,aE.out,aD.out,by
     rw[hF,I]
     constructor
     ·exactλh=>⟨e,rfl,of_decide_eq_true h⟩
     ·rintro⟨y,h1,h2⟩;rw[<-Option.some.inj h1]at h2;exact decide_eq_true h2⟩)
    clear aG he X I hb aF hF W
    obtain⟨s0,i0,g,k0⟩:=e
    simp only at g0 g1 g2 g3
    go_wp2_with (first
     |(go_at_call 178;refine Z.out.mono ?_;rintro x w2 ⟨rfl,V⟩;have aB:=C6x (Y.out.trans V);clear V)
     |fail)
    go_ret2
    exact⟨j,F,HF.out,rfl,aB.out⟩
   ·obtain rfl:j=N:=by omega
    have HF:=C6x (show A0V l s j false from⟨by rw[<-J.out];exact W,aE.out,aD.out,by
     constructor
     ·exactλh=>by cases h
     ·rintro⟨y,h1,_⟩;have:=(List.getElem?_eq_some_iff.1 h1).1;rw[<-J.out]at this;omega⟩)
    clear aF W
    go_wp2_with fail
    go_ret2
    exact⟨j,false,HF.out,rfl,Y.out⟩
theorem B18(v:Value)(l:List En)(s:ByteArray)(w:World)(h:M0 w v l)(Y:Ris l)(X:l.length<=1000):Calls Tryz.prog 140 #[v,.string s] w (C2W w l s):=by
 have V:=C6x (B6A v l s w h Y X)
 clear h
 go_enter Tryz.func140,Tryz.ntmps140
 go_wp2_with (first
  |(go_at_call 177;refine V.out.mono ?_;rintro x w2 ⟨p,F,J,rfl,I⟩;have W:=C6x J;have U:=C6x I;clear I J)
  |fail)
 go_ret2
 exact⟨p,F,W.out,rfl,U.out⟩
end
section
open Go.ChangeShapes Go.WideShapes Go.ChangeAt Go.RowKit
theorem M0.tfront{w:World}{A:Option Addr}{N c c' p:Nat}{l:List En}(h:M0 w (.slice A N c) l)(hN:N=l.length)(hp:p<=N)(W:p<=c')(X:c'<=maxLen)(h3:A=none->c'=0):M0 w (.slice A p c') (l.take p):=by
 obtain⟨⟨A',k,e,a1,a2,a3,a4,J⟩,hs⟩:=h
 injection e with e1 e2 e3
 subst e1 e3
 have e:(l.take p).length=p:=by rw[List.length_take];omega
 refine⟨⟨A,c',by rw[e],by rw[e];exact W,X,by rw[W6],h3,λV=>?_⟩,λx hx=>hs x (List.mem_of_mem_take hx)⟩
 rw[e]at V
 obtain⟨U,rfl,Y,Z⟩:=J (by omega)
 refine⟨U,rfl,Y,λj u I=>Z j u ?_⟩
 rw[B1r,List.getElem?_take]at I
 split at I
 ·exact I
 ·cases I
theorem M0.tback{w:World}{J I:Addr}{N c p:Nat}{l:List En}(h:M0 w (.slice (some J) N c) l)(hN:N=l.length)(hp:p<=N)(X:p<N->I.block=J.block/\∀j,I.add j=J.add (p * 4+j)):M0 w (.slice (some I) (N-p) (c-p)) (l.drop p):=by
 obtain⟨⟨A',k,e,a1,a2,a3,a4,V⟩,hs⟩:=h
 injection e with e1 e2 e3
 subst e3
 have e:(l.drop p).length=N-p:=by rw[List.length_drop];omega
 refine⟨⟨some I,c-p,by rw[e],by rw[e];omega,by omega,by rw[W6],λh=>(by cases h),λW=>?_⟩,λx hx=>hs x (List.mem_of_mem_drop hx)⟩
 rw[e]at W
 obtain⟨aA,U,Y,Z⟩:=V (by omega)
 rw[<-e1]at U
 obtain rfl:=Option.some.inj U
 obtain⟨k1,k2⟩:=X (by omega)
 refine⟨I,rfl,by rw[k1];exact Y,λj u hu=>?_⟩
 rw[k2]
 refine Z _ u ?_
 rwa[B1s,List.getElem?_drop]at hu
def bh(l:List En)(p:Nat)(F:Bool):List En:=l.drop (if F then p+1 else p)
structure ArR (w:World) (l:List En) (s:ByteArray) (x:Ending) (w':World):Prop where
 ex:∃(p:Nat) (F:Bool) (A1 A2:Option Addr) (c2:Nat),A0V l s p F/\x= .returned (.tuple #[.slice A1 p p,.slice A2 (bh l p F).length c2])/\M0 w' (.slice A1 p p) (l.take p)/\M0 w' (.slice A2 (bh l p F).length c2) (bh l p F)/\B0 B5 w B5 w'
theorem A7j(v:Value)(l:List En)(s:ByteArray)(w:World)(h:M0 w v l)(hr:Ris l)(hl:l.length<=1000):Calls Tryz.prog 180 #[v,.string s] w (ArR w l s):=by
 have HB:=C6x (B18 v l s w h hr hl)
 obtain⟨A,c,rfl,aL,aI⟩:=h.form
 obtain⟨N,hN⟩:∃N,N=l.length:=⟨_,rfl⟩
 rw[<-hN]at h hl HB aL⊢
 have X:=C6x h
 have I:=C6x hN
 unfold C2W at HB
 have aR:(N:Int)<=1000:=by omega
 have aH:(N:Int)<=(c:Int)/\(c:Int)<=9223372036854775807:=by unfold maxLen at aI;omega
 obtain⟨aP,aQ⟩:=aH
 clear h hr hN hl
 rcases A with _|ad
 ·obtain rfl:c=0:=by obtain⟨⟨_,_,e,_,_,_,h4,_⟩,_⟩:=X.out;injection e with e1 e2 e3;rw[e3];exact h4 e1.symm
  obtain rfl:N=0:=by omega
  have aK:l=[]:=List.eq_nil_of_length_eq_zero I.out.symm
  subst aK
  go_enter Tryz.func180,Tryz.ntmps180
  go_upto_region 2 with(first
   |(go_at_call 140;refine HB.out.mono ?_;rintro x w2 ⟨p,F,Y,rfl,a2⟩;obtain rfl:p=0:=Nat.le_zero.1 Y.le;obtain rfl:F=false:=(by cases F with|false=>rfl|true=>obtain⟨y,hy,_⟩:=Y.at_.1 rfl;simp at hy);have W:=C6x Y;have J:=C6x a2;clear a2 Y)
   |fail)
  go_quiet (fail)
  go_wp2_with fail
  go_ret2
  refine⟨⟨0,false,none,none,0,W.out,rfl,?_,?_,J.out.drewN _⟩⟩
  ·exact(EnO.nil _).rd
  ·exact(EnO.nil _).rd
 ·go_enter Tryz.func180,Tryz.ntmps180
  go_upto_region 2 with(first
   |(go_at_call 140;refine HB.out.mono ?_;rintro x w2 ⟨p,F,Y,rfl,a2⟩;have W:=C6x Y;have J:=C6x a2;clear a2 Y)
   |fail)
  have Z:p<=N:=by rw[I.out];exact W.out.le
  have aT:(p:Int)<=(N:Int):=by omega
  have aS:(p:Int)<=(c:Int):=by omega
  cases F with
  |false=>
   have aD:(bh l p false).length=N-p:=by unfold bh;rw[if_neg (by decide),List.length_drop,I.out]
   have aC:=(X.out.step J.out).tfront (c':=p) I.out Z (Nat.le_refl _) (by omega) (λe=>by cases e)
   have aB:=C6x aC
   have U:=C6x aD
   have aE:=C6x Z
   clear aD aC Z
   by_cases aJ:c=p
   ·have V:M0 w2 (.slice (some ad) (N-p) (c-p)) (bh l p false):=(X.out.step J.out).tback I.out aE.out (λh=>by omega)
    rw[show c-p=0 by omega]at V
    have aA:=C6x V
    clear V
    go_quiet (fail)
    go_wp2_with fail
    go_ret2
    refine⟨⟨p,false,_,_,_,W.out,by rw[U.out];rfl,?_,?_,J.out.drewN _⟩⟩
    ·exact aB.out.step ((B0.refl B5 _).drewN _)
    ·rw[U.out]
     exact aA.out.step ((B0.refl B5 _).drewN _)
   ·have V:M0 w2 (.slice (some (ad.add (p * 4))) (N-p) (c-p)) (bh l p false):=(X.out.step J.out).tback I.out aE.out (λ_=>⟨by simp[A01],λj=>by rw[Go.Deep.add_add]⟩)
    have aA:=C6x V
    clear V
    go_quiet (fail)
    go_wp2_with fail
    go_ret2
    refine⟨⟨p,false,_,_,_,W.out,by rw[U.out];rfl,?_,?_,J.out.drewN _⟩⟩
    ·exact aB.out.step ((B0.refl B5 _).drewN _)
    ·rw[U.out]
     exact aA.out.step ((B0.refl B5 _).drewN _)
  |true=>
   have aG:p<N:=by
    obtain⟨y,hy,_⟩:=W.out.at_.1 rfl
    rw[I.out];exact(List.getElem?_eq_some_iff.1 hy).1
   obtain⟨b,o,e,aM⟩:=X.out.at_ (i:=p) I.out (by rw[<-I.out];exact aG)
   clear aM
   injection e with e
   subst e
   have aD:(bh l p true).length=N-p-1:=by unfold bh;rw[if_pos rfl,List.length_drop,I.out];omega
   have aC:=(X.out.step J.out).tfront (c':=p) I.out Z (Nat.le_refl _) (by omega) (λe=>by cases e)
   have aB:=C6x aC
   have U:=C6x aD
   have aE:=C6x Z
   have V:M0 w2 (.slice (some ⟨b,o+p * 4,none⟩) (N-p) (c-p)) (l.drop p):=(X.out.step J.out).tback I.out Z (λ_=>⟨rfl,λj=>by rw[add_none,add_none,Nat.add_assoc]⟩)
   have aF:∀a':Addr,(c-p≠1->a'.block=(⟨b,o+p * 4,none⟩:Addr).block/\∀j,a'.add j=(⟨b,o+p * 4,none⟩:Addr).add (1 * 4+j))->M0 w2 (.slice (some a') (N-p-1) (c-p-1)) (bh l p true):=λa' h=>by
    show M0 w2 _ (l.drop (p+1))
    rw[<-List.drop_drop]
    exact V.tback (by rw[List.length_drop,I.out]) (by omega) (λh1=>h (by omega))
   have aA:=C6x aF
   have aJ:¬c=p:=by omega
   have aO:(1:Int)<=((N-p:Nat):Int):=by omega
   have aN:((N-p:Nat):Int)<=((c-p:Nat):Int):=by omega
   clear V aF aC aD Z aG
   by_cases h1:c-p=1
   ·go_quiet (fail)
    go_wp2_with fail
    go_ret2
    refine⟨⟨p,true,_,_,_,W.out,by rw[U.out];rfl,?_,?_,J.out.drewN _⟩⟩
    ·exact aB.out.step ((B0.refl B5 _).drewN _)
    ·rw[U.out]
     have:=aA.out (⟨b,o+p * 4,none⟩:Addr) (λh=>absurd h1 h)
     rw[h1]at this
     exact this.step ((B0.refl B5 _).drewN _)
   ·go_quiet (fail)
    go_wp2_with fail
    go_ret2
    refine⟨⟨p,true,_,_,_,W.out,by rw[U.out];rfl,?_,?_,J.out.drewN _⟩⟩
    ·exact aB.out.step ((B0.refl B5 _).drewN _)
    ·rw[U.out]
     exact(aA.out _ (λ_=>⟨rfl,λj=>by rw[add_none,add_none,Nat.add_assoc]⟩)).step ((B0.refl B5 _).drewN _)
end
section
open Go.ChangeShapes Go.WideShapes Go.ChangeAt Go.RowKit
theorem EnO.since{W V w:World}{l:List En}{v:Value}(h:EnO V l v w)(a:B0 B5 W B5 V):EnO W l v w:=by
 obtain⟨F,I,J⟩:=h.ex
 exact⟨⟨F,I,a.trans J⟩,h.sz⟩
theorem A5f{w:World}{ty:TypeId}{A:Option Addr}{p:Nat}{l m:List En}{aA:Value}(h:M0 w (.slice A p p) l)(hp:p=l.length)(W:M0 w aA m)(hm:0<m.length)(hn:l.length+m.length<=1000000):
 ∃I w',(Builtin.append_ #[66,66] ty #[.slice A p p,aA]).run Tryz.prog w= .ok I w'/\EnO w (l++m) I w':=by
 subst hp
 have aG:∀e∈l++m,e.s.size<=maxLen:=λe he=>by
  rcases List.mem_append.1 he with X|X
  ·exact h.sz e X
  ·exact W.sz e X
 obtain⟨A',k,e,a1,a2,a3,a4,a5⟩:=h.rd
 injection e with e1 _ e3
 subst e1 e3
 rcases A with _|Z
 ·have h0:l.length=0:=a4 rfl
  obtain rfl:l=[]:=List.eq_nil_of_length_eq_zero h0
  have aE:=(EnO.nil w).more (m:=m) W.sz
  obtain⟨I,w',Y,J,h3,h4⟩:=A3p (ty:=ty) (n:=0) (World.ownsRow_nil w 0 74 4) W.rd (A4s m) (by simpa using hn)
  exact⟨I,w',Y,aE.2 w I w' (B0.refl _ _) (by simpa[ecs]using J) h3 h4⟩
 ·obtain⟨i0,hi,aH,aI,aJ⟩:=info_parts A5e
  obtain⟨B,c,rfl,b1,b2,b3,b4,b5⟩:=W.rd
  obtain⟨bd,rfl,aL,aD⟩:=b5 hm
  have aF:∀j u,(ecs l)[j]? =some u->w.cell? (Z.add j)=some u:=λj u hu=>by
   have hl:0<l.length:=by
    have:=(List.getElem?_eq_some_iff.1 hu).1
    rw[W6]at this;omega
   obtain⟨aK,e,_,hc⟩:=a5 hl
   obtain rfl:=Option.some.inj e
   exact hc j u hu
  obtain⟨I,w',Y,J,h3⟩:=run_append_arg_grows (P:=Tryz.prog) (w:=w) 66 ty 74 i0 _ 4 40 Tryz.underlying66 hi aH aI aJ rfl (by decide) Z l.length l.length (ecs l) (W6 l) aF bd m.length c (ecs m) (W6 m) aD (by omega) (by unfold maxLen;omega) (by omega)
  refine⟨I,w',Y,⟨⟨λk=>I.ownBlock=some k,⟨?_,λ_ V=>V,λk V=>(J.lt k V).2⟩,?_⟩,aG⟩⟩
  ·rw[List.length_append,A3E]
   exact⟨J.1,J.2.imp (λh=>h) (λ⟨g,aB,aC,q1,q2,q3⟩=>⟨g,aB,aC,q1,Nat.zero_le _,q3⟩)⟩
  ·have U:=(B0.refl B5 w).grown h3 (λj hj=>by cases hj)
   exact⟨U.os,U.tape,U.output,U.size,U.block,λk V=>.inr (J.lt k V).1⟩
theorem A3d{w:World}{ops:Array Oper}{rest:List Oper}{o:Oper}{a:Act}{Q:Exit->Act->World->Prop}(V:o.guard=none)(s x:Operand)
 (Z:o.op= .call { callee:=.builtin .append,args:= #[s,x],argTypes:= #[66,66] })
 {A:Option Addr} {p:Nat} {l m:List En} {J:Value} (hs:a.eval s= .slice A p p) (hx:a.eval x=J) (h:M0 w (.slice A p p) l) (hp:p=l.length) (hr:M0 w J m) (X:0<m.length) (Y:l.length+m.length<=1000000)
 (W:∀I w',EnO w (l++m) I w'->wpList Tryz.prog ops Q rest (a.put o.dst I) w'):wpList Tryz.prog ops Q (o::rest) a w:=by
 refine wpList_plain V λK hK=>?_
 obtain⟨I,w',aA,U⟩:=A5f (ty:=o.type) h hp hr X Y
 unfold Oper.wp execOp
 simp only[Z,resolve,invoke,builtin,Sem.run_bind,Sem.run_pure,Result.andThen_ok,List.map_toArray,List.map_cons,List.map_nil,hs,hx,aA]
 exact hK _ _ (W I w' U)
theorem C1d(w:World)(e:En)(I:e.s.size<=maxLen):M0 (w.alloc (.cells (ea e) 74)) (.slice (some ⟨w.heap.size,0,none⟩) 1 1) [e]:=
 ⟨by have:=B8K w e;rwa[<-A7e]at this,λx J=>by rw[List.mem_singleton.1 J];exact I⟩
theorem B8T(v:Value)(l:List En)(e:En)(w:World)(h:M0 w v l)(hr:Ris l)(hl:l.length<=1000)(hs:e.s.size<=maxLen):Calls Tryz.prog 145 #[v,.agg (ea e)] w λx w'=>∃v',x= .returned v'/\EnO w (S9 l e) v' w':=by
 obtain⟨y,hy⟩:∃y,y=w.heap.size:=⟨_,rfl⟩
 obtain⟨V,W⟩:∃V,V=w.alloc (.cells (ea e) 74):=⟨_,rfl⟩
 have HY:=C6x (show C3 V y 74 (ea e)by rw[W,hy];exact C3.new _ _ _)
 have aB:B0 B5 w B5 V:=by rw[W];exact(B0.refl _ _).alloc _
 have aZ:=C6x aB
 have aH:=C6x (A7j v l e.s V (h.step aB) hr hl)
 have aI:=C6x hl
 have aY:=C6x hr
 have HV:=C6x W
 have bA:=C6x hy
 have HS:=C6x hs
 clear W hy aB h hr hl hs
 obtain⟨X,Y,Z,s3⟩:=HY.out.e4.all
 obtain⟨s,i,g,k⟩:=e
 simp only at X Y Z s3 aH
 go_enter Tryz.func145,Tryz.ntmps145
 go_upto_region 1 with(fail)
 rw[<-HV.out,<-bA.out]
 go_upto_region 2 with(first
  |(go_at_call 180;refine aH.out.mono ?_;rintro x w2 ⟨⟨p,F,A1,A2,c2,hf,rfl,U,I,a2⟩⟩;have J:=C6x hf;have aU:=C6x U;have aS:=C6x I;have aF:=C6x a2;clear hf U I a2)
  |fail)
 have aJ:=HY.out.keep (aF.out.block y HY.out.lt (λh=>h))
 obtain⟨X,Y,Z,s3⟩:=aJ.e4.all
 simp only at X Y Z s3
 clear aJ
 have aA:=(B0.refl B5 w2).alloc (.cells (ea ⟨s,i,g,k⟩) 74)
 have U:=aU.out.step aA
 have aO:=C1d w2 ⟨s,i,g,k⟩ HS.out
 have aE:p=(l.take p).length:=by rw[List.length_take,Nat.min_eq_left J.out.le]
 have aN:(l.take p).length+1<=1000000:=by rw[<-aE];have:=J.out.le;have:=aI.out;omega
 have aG:=C6x aA
 have aX:=C6x aE
 have aV:=C6x aN
 clear aA aE aN
 go_wp2_with (first
  |(at_builtin;refine A3d rfl (.tmp 14) (.tmp 16) rfl rfl rfl U aX.out aO (Nat.one_pos) aV.out ?c1)
  |fail)
 case c1=>
  intro v3 w3 aC
  have aT:=C6x ((aC.since aG.out).since aF.out)
  have I:=(aS.out.step aG.out).step aC.adv
  have aD:=aT.out.more (m:=bh l p F) I.sz
  have aP:=aD.1
  have aR:=I.rd
  have aM:(l.take p++[(⟨s,i,g,k⟩:En)]).length+(bh l p F).length<=1000000:=by
   unfold bh
   simp only[List.length_append,List.length_take,List.length_drop,List.length_singleton]
   have:=aI.out
   have:=J.out.le
   split<;>omega
  have aW:=C6x aD.2
  clear U aO aC aD I X Y Z s3
  go_wp2_with (first
   |(at_builtin;refine R0 rfl (.tmp 17) (.tmp 18) rfl rfl rfl aP aR (A4s _) aM ?c2)
   |fail)
  case c2=>
   intro v4 w4 aQ aL aK
   have hp:=aW.out w3 v4 w4 (B0.refl _ _) (by rw[show(l.take p++[(⟨s,i,g,k⟩:En)]).length=min p l.length+1 by simp];exact aQ) aL aK
   have e:l.take p++[(⟨s,i,g,k⟩:En)]++bh l p F=S9 l ⟨s,i,g,k⟩:=by
    rw[J.out.lo_eq,show bh l p F=hi s l from J.out.hi_eq aY.out]
    unfold S9;simp
   rw[e]at hp
   have HP:=C6x (hp.since aZ.out)
   clear hp aQ aL aK aP aR aM e
   go_wp2_with fail
   go_ret
   exact⟨_,rfl,HP.out⟩
end
section
open Go.ChangeShapes Go.WideShapes Go.ChangeAt Go.RowKit
theorem A58(k:Nat):(Builtin.zeroCells (Value.agg #[.string ⟨#[]⟩,.int .i64 0,.int .i64 0,.int .i64 0]).cells k).size=k * 4:=by
 simp[Builtin.zeroCells,Value.cells]
theorem B8U{w:World}{I:Array Value}{J:Nat}(W:J<=maxLen)(X:I.size=J * 4):EnO w [] (.slice (some ⟨w.heap.size,0,none⟩) 0 J) (w.drew.alloc (.cells I 74)):=by
 have h:(w.drew.alloc (.cells I 74)).ownsRow 0 74 4 (.slice (some ⟨w.heap.size,0,none⟩) 0 J) 0 []:=World.ownsRow_made w.drew I J (Nat.zero_le _) W X
 have U:=((B0.refl B5 w).drew).alloc (.cells I 74)
 refine⟨⟨λk=>k=w.heap.size,⟨h,λk V=>?_,λk V=>?_⟩,⟨U.os,U.tape,U.output,U.size,U.block,λk V=>.inr (by omega)⟩⟩,λ_ h=>by simp at h⟩
 ·have:w.heap.size=k:=by simpa[Value.ownBlock]using V
  exact this.symm
 ·subst V
  have:=World.size_alloc w.drew (.cells I 74)
  rw[this]
  show w.heap.size<w.heap.size+1
  omega
theorem B37(n:Nat)(hn:n<=2000)(w:World):Calls Tryz.prog 204 #[.slice none 0 0,.int .i64 (n:Int)] w λx w'=>∃v',x= .returned v'/\EnO w [] v' w':=by
 have aH:(n:Int)<=2000:=by omega
 obtain⟨i0,hi,aB,aC,aD⟩:=info_parts A5e
 by_cases W:n=0
 ·subst W
  go_enter Tryz.func204,Tryz.ntmps204
  go_wp2_with fail
  go_ret
  exact⟨_,rfl,EnO.nil w⟩
 ·have aI:(0:Int)<(n:Int):=by omega
  have U:∀ty,(Builtin.append_ #[66,3] ty #[.slice none 0 0,.int .i64 (n:Int)]).run Tryz.prog w=_:=λty=>Lib.run_append_nil_zeros w 66 3 ty 74 i0 _ .i64 .i64 Tryz.underlying66 Tryz.underlying3 hi aB n (by omega) (by rw[aC];decide) (by omega) (by rw[aD];omega)
  have Z:=grownCap_ge w n 0 74
  have J:grownCap w n 0 74<=maxLen:=grownCap_le_maxLen w n 0 74 (by unfold maxLen;omega)
  obtain⟨I,X⟩:∃c,c=grownCap w n 0 74:=⟨_,rfl⟩
  rw[<-X]at U Z J
  have V:(Builtin.zeroCells (Value.agg #[.string ⟨#[]⟩,.int .i64 0,.int .i64 0,.int .i64 0]).cells n++Builtin.zeroCells (Value.agg #[.string ⟨#[]⟩,.int .i64 0,.int .i64 0,.int .i64 0]).cells (I-n)).size=I * 4:=by
   rw[Array.size_append,A58,A58];omega
  obtain⟨aE,Y⟩:∃c,c=Builtin.zeroCells (Value.agg #[.string ⟨#[]⟩,.int .i64 0,.int .i64 0,.int .i64 0]).cells n++Builtin.zeroCells (Value.agg #[.string ⟨#[]⟩,.int .i64 0,.int .i64 0,.int .i64 0]).cells (I-n):=⟨_,rfl⟩
  rw[<-Y]at U V
  have HM:=C6x (B8U (w:=w) J V)
  have aA:=C6x U
  have aF:(I:Int)<=9223372036854775807:=by unfold maxLen at J;omega
  have aG:(n:Int)<=(I:Int):=by omega
  clear X Y V U J Z W
  go_enter Tryz.func204,Tryz.ntmps204
  go_wp2_with (first
   |(at_builtin;refine Lib.wpList_append_run _ rfl (.tmp 20) (.tmp 21) 66 3 rfl _ _ rfl rfl _ _ (aA.out _) ?_)
   |fail)
  go_ret
  exact⟨_,rfl,HM.out⟩
def CcL(w:World)(N S:Nat)(t3 t11:Value)(wr:World):Prop:=((t11= .int .i64 0/\t3= .int .i64 0)\/(t11= .int .i64 1/\t3= .int .i64 (N:Int))\/(t11= .int .i64 2/\t3= .int .i64 (S:Int)))/\wr=w
def CdL(w:World)(l m:List En)(t6 t27:Value)(wr:World):Prop:=(t27= .int .i64 0/\EnO w [] t6 wr)\/(t27= .int .i64 1/\EnO w l t6 wr)\/(t27= .int .i64 2/\EnO w (l++m) t6 wr)
theorem A9V(w:World)(y:Nat)(va vb:Value)(l m:List En)(J:C3 w y 66 #[va,vb])(ha:M0 w va l)(hb:M0 w vb m)(hl:l.length<=1000)(U:m.length<=1000):Calls Tryz.prog 181 #[.slice (some ⟨y,0,none⟩) 2 2] w λx w'=>∃v',x= .returned v'/\EnO w (l++m) v' w':=by
 obtain⟨A1,c1,rfl,_,_⟩:=ha.form
 obtain⟨A2,c2,rfl,_,_⟩:=hb.form
 obtain⟨N,hN⟩:∃N,N=l.length:=⟨_,rfl⟩
 obtain⟨M,hM⟩:∃N,N=m.length:=⟨_,rfl⟩
 obtain⟨S,hS⟩:∃S,S=N+M:=⟨_,rfl⟩
 rw[<-hN]at ha J hl
 rw[<-hM]at hb J U
 have aG:(N:Int)<=1000:=by omega
 have aF:(M:Int)<=1000:=by omega
 have aH:(S:Int)<=2000:=by omega
 have aE:(N:Int)+(M:Int)=(S:Int):=by omega
 have HA:=C6x ha
 have HB:=C6x hb
 have HY:=C6x J
 have HN:=C6x hN
 have HM:=C6x hM
 have HG:=C6x (B37 S (by omega))
 have aD:=C6x (show N<=1000/\M<=1000 from⟨hl,U⟩)
 have y0:w.cell? ⟨y,0,none⟩=some (.slice A1 N c1):=J.cell 0
 have y1:w.cell? ⟨y,1,none⟩=some (.slice A2 M c2):=J.cell 1
 clear ha hb J hN hM hS hl U
 go_enter Tryz.func181,Tryz.ntmps181
 go_wp2_with fail
 go_loopw [3,11] (CcL w N S) (λ_ t _=>2-(intOf t).toNat)
 case atStart=>exact⟨.inl ⟨rfl,rfl⟩,rfl⟩
 case round=>
  obtain⟨hrel,rfl⟩:=hrel
  rcases hrel with⟨rfl,rfl⟩|⟨rfl,rfl⟩|⟨rfl,rfl⟩
  ·go_wp2_with fail
   exact⟨⟨.inr (.inl ⟨rfl,rfl⟩),rfl⟩,by simp[intOf]⟩
  ·go_wp2_with fail
   exact⟨⟨.inr (.inr ⟨rfl,by rw[<-aE]⟩),rfl⟩,by simp[intOf]⟩
  ·clear y0 y1
   go_wp2_with (first
    |(go_at_call 204;refine(HG.out _).mono ?_;rintro x w2 ⟨v2,rfl,h2⟩;have HE:=C6x h2;clear h2)
    |fail)
   go_loopw [6,27] (CdL wr l m) (λ_ t _=>2-(intOf t).toNat)
   case atStart=>exact .inl ⟨rfl,HE.out⟩
   case round=>
    clear HE
    rcases hrel with⟨rfl,I⟩|⟨rfl,I⟩|⟨rfl,I⟩
    ·have J:=(HY.out.keep (I.adv.block y HY.out.lt (λh=>h)))
     have y0:wr.cell? ⟨y,0,none⟩=some (.slice A1 N c1):=J.cell 0
     have U:=(HA.out.step I.adv)
     have W:=I.more (m:=l) U.sz
     have aA:=W.1
     have X:=U.rd
     have V:([]:List En).length+(l).length<=1000000:=by
      have:=aD.out
      have:=HN.out
      have:=HM.out
      (try simp only[List.length_nil])
      omega
     rw[<-HN.out]at X V
     have aC:=C6x W.2
     obtain⟨A6,c6,rfl⟩:=I.form
     clear W U J I
     go_wp2_with (first
      |(at_builtin;refine R0 rfl (.tmp 31) (.tmp 32) rfl rfl rfl aA X (A4s _) V ?c2)
      |fail)
     case c2=>
      intro v4 w4 aB Z Y
      have hp:=aC.out _ v4 w4 (B0.refl _ _) (by rw[<-HN.out,List.length_nil,Nat.zero_add];exact aB) Z Y
      have HP:=C6x hp
      clear hp aB Z Y aA X V y0
      go_wp2_with fail
      exact⟨.inr (.inl ⟨rfl,HP.out⟩),by simp[intOf]⟩
    ·have J:=(HY.out.keep (I.adv.block y HY.out.lt (λh=>h)))
     have y1:wr.cell? ⟨y,1,none⟩=some (.slice A2 M c2):=J.cell 1
     have U:=(HB.out.step I.adv)
     have W:=I.more (m:=m) U.sz
     have aA:=W.1
     have X:=U.rd
     have V:(l).length+(m).length<=1000000:=by
      have:=aD.out
      have:=HN.out
      have:=HM.out
      (try simp only[List.length_nil])
      omega
     rw[<-HM.out]at X V
     have aC:=C6x W.2
     obtain⟨A6,c6,rfl⟩:=I.form
     clear W U J I
     go_wp2_with (first
      |(at_builtin;refine R0 rfl (.tmp 31) (.tmp 32) rfl rfl rfl aA X (A4s _) V ?c2)
      |fail)
     case c2=>
      intro v4 w4 aB Z Y
      have hp:=aC.out _ v4 w4 (B0.refl _ _) (by rw[<-HM.out];exact aB) Z Y
      have HP:=C6x hp
      clear hp aB Z Y aA X V y1
      go_wp2_with fail
      exact⟨.inr (.inr ⟨rfl,HP.out⟩),by simp[intOf]⟩
    ·have HE:=C6x I
     go_wp2_with fail
     go_ret
     exact⟨_,rfl,HE.out⟩
theorem B6B(v:Value)(l:List En)(s:ByteArray)(w:World)(h:M0 w v l)(X:Ris l)(U:l.length<=1000):Calls Tryz.prog 142 #[v,.string s] w λx w'=>∃v',x= .returned v'/\EnO w (dropL l s) v' w':=by
 have aD:=C6x (A7j v l s w h X U)
 have aH:=C6x X
 have aG:=C6x U
 clear h X U
 go_enter Tryz.func142,Tryz.ntmps142
 go_upto_region 2 with(first
  |(go_at_call 180;refine aD.out.mono ?_;rintro x w2 ⟨⟨p,F,Y,Z,c2,hf,rfl,aA,I,a2⟩⟩;have HF:=C6x hf;have aF:=C6x aA;have aE:=C6x I;have aB:=C6x a2;clear hf aA I a2)
  |fail)
 obtain⟨n,W⟩:∃n,n=(bh l p F).length:=⟨_,rfl⟩
 rw[<-W]
 have I:=aE.out
 rw[<-W]at I
 have J:=(B0.refl B5 w2).alloc (.cells #[.slice Y p p,.slice Z n c2] 66)
 have V:(l.take p).length<=1000/\(bh l p F).length<=1000:=by
  have:=aG.out
  unfold bh
  simp only[List.length_take,List.length_drop]
  omega
 have HC:=C6x (A9V _ w2.heap.size _ _ _ _ (C3.new w2 66 #[.slice Y p p,.slice Z n c2]) (aF.out.step J) (I.step J) V.1 V.2)
 have aC:=C6x (aB.out.trans J)
 have e:l.take p++bh l p F=dropL l s:=by
  rw[HF.out.lo_eq,show bh l p F=hi s l from HF.out.hi_eq aH.out];rfl
 rw[e]at HC
 clear W I J V e
 go_wp2_with (first
  |(go_at_call 181;refine HC.out.mono ?_;rintro x w4 ⟨v4,rfl,h4⟩;have HP:=C6x (h4.since aC.out);clear h4)
  |fail)
 go_ret
 exact⟨_,rfl,HP.out⟩
end
section
open Go.RowKit
structure Rdv (w:World) (p M:Nat) (H:Nat->List Nat):Prop where
 home:∀F' w',B0 B5 w F' w'->∀i:Nat,i<M->Calls Tryz.prog 94 #[.pointer (some ⟨p,0,none⟩),.int .i64 (i:Int)] w' (RdR w' (H i))
 homes:∀F' w',B0 B5 w F' w'->∃l,w'.cell? ⟨p,0,none⟩=some (.pointer (some ⟨l,0,none⟩))/\Calls Tryz.prog 65 #[.pointer (some ⟨l,0,none⟩)] w' λe w''=>e= .returned (.int .i64 (M:Int))/\∃k,w''=w'.drewN k
theorem Rdv.step{w w':World}{p M:Nat}{H:Nat->List Nat}{F':Nat->Prop}(h:Rdv w p M H)(I:B0 B5 w F' w'):Rdv w' p M H:=
 ⟨λ_ _ k=>h.home _ _ (I.nul.trans k),λ_ _ k=>h.homes _ _ (I.nul.trans k)⟩
theorem Vu.rdv{w:World}{F:Nat->Prop}{d l b n N:Nat}{s:DS}{g:LS}{p m:Nat}{A:Nat->Option (List Nat)}(h:Vu w F d l b n N s g p m A):Rdv w p (N-2-n) (vwH A (D8 s n g)):=
 ⟨λ_ _ k i hi=>C2E F d l b n N s g p m A i _ (h.step k) hi,λ_ _ k=>⟨l,(h.step k).c0,A2P (h.step k).rs.lg (h.step k).rs.dk h.hn.2.2.2 (by have:=h.hn;omega)⟩⟩
structure Sd (H:Nat->List Nat) (M:Nat):Prop where
 hM:46<=M/\M<=1024
 row:∀i,i<M->(H i).length=128/\∀x∈H i,x<256
 map:A1d (H 1) (M:Int)
 ino:∀i,1<=i->i<=40->∃x,A1e (H (1+i))=some x/\∀j,j<8->x.a j=0\/(42<=x.a j/\x.a j<M)
def C9(H:Nat->List Nat)(i:Nat):L6:=dI (H (1+i))
def D3(H:Nat->List Nat)(M:Nat):List Bool:=A2n (H 1) M
theorem Sd.dec{H:Nat->List Nat}{M i:Nat}(h:Sd H M)(J:1<=i)(U:i<=40):A1e (H (1+i))=some (C9 H i)/\eI (H (1+i))=0/\∀j,j<8->(C9 H i).a j=0\/(42<=(C9 H i).a j/\(C9 H i).a j<M):=by
 obtain⟨x,I,V⟩:=h.ino i J U
 have e:C9 H i=x:=by unfold C9 dI;rw[I];rfl
 rw[e]
 exact⟨I,by unfold eI;rw[I];rfl,V⟩
theorem RdR.in_{w':World}{X:List Nat}{z:Nat}(V:z<w'.heap.size)(I:Rd w' 1 (.slice (some ⟨z,0,none⟩) 128 128) 128 (X.map u8))(h3:X.length=128)(J:∀x∈X,x<256):In w' (.slice (some ⟨z,0,none⟩) 128 128) X:=
 ⟨by rw[h3];exact I,λb U _=>by have:z=b:=by simpa[Value.ownBlock]using U
                               omega,J⟩
theorem B19(v:Value)(l:List Nat)(M:Nat)(w:World)(h:In w v l)(V:A1d l (M:Int)):Calls Tryz.prog 24 #[v,.int .i64 (M:Int)] w λe w'=>∃d,e= .returned (.tuple #[.pointer (some ⟨d,0,none⟩),.int .i64 0])/\Am w' d (A2n l M)/\B0 B5 w (J0 d) w':=
 (B1q v l (M:Int) w h).mono λe w' k=>by
  rcases k with⟨_,d,rfl,I,J⟩|⟨U,_⟩
  ·exact⟨d,rfl,by simpa using I,J⟩
  ·exact absurd V U
def fileE(H:Nat->List Nat)(i g:Int):Int:=if i<1\/40<i then 14 else if(C9 H i.toNat).k=0\/(C9 H i.toNat).g≠g then 14 else 0
def fileX(H:Nat->List Nat)(i g:Int):L6:=if fileE H i g=0 then C9 H i.toNat else J9
def Q3(H:Nat->List Nat)(i g k:Int):Int:=if fileE H i g=0 then(if(fileX H i g).k=k then 0 else 12)else 14
def A7l(H:Nat->List Nat)(i g k:Int):L6:=if Q3 H i g k=0 then fileX H i g else J9
theorem B8V(H:Nat->List Nat)(i g:Int):fileE H i g=0\/fileE H i g=14:=by unfold fileE;split<;>(try split)<;>simp
theorem R5{H:Nat->List Nat}{i g:Int}(h:fileE H i g=0):1<=i/\i<=40/\(C9 H i.toNat).k≠0/\(C9 H i.toNat).g=g/\fileX H i g=C9 H i.toNat:=by
 have J:=h
 unfold fileE at h
 split at h
 ·cases h
 ·split at h
  ·cases h
  ·rename_i U I
   refine⟨by omega,by omega,λe=>I (.inl e),?_,by unfold fileX;rw[if_pos J]⟩
   exact Classical.byContradiction λe=>I (.inr e)
theorem A2t{H:Nat->List Nat}{i g:Int}(h:fileE H i g≠0):fileX H i g=J9/\fileE H i g=14:=by
 refine⟨by unfold fileX;rw[if_neg h],?_⟩
 rcases B8V H i g with e|e
 ·exact absurd e h
 ·exact e
theorem A0W{H:Nat->List Nat}{i g k:Int}(h:Q3 H i g k=0):fileE H i g=0/\(fileX H i g).k=k/\A7l H i g k=fileX H i g:=by
 have I:=h
 unfold Q3 at h
 split at h
 ·rename_i J
  split at h
  ·rename_i U
   exact⟨J,U,by unfold A7l;rw[if_pos I]⟩
  ·cases h
 ·cases h
def A8f(w:World)(x:L6)(I:Int)(e:Ending)(w':World):Prop:=e= .returned (.tuple #[.agg (ic x),.int .i64 I])/\B0 B5 w B5 w'
section
variable {p M:Nat} {H:Nat->List Nat} {w:World}
theorem B4M(h:Rdv w p M H)(W:Sd H M):Calls Tryz.prog 99 #[.pointer (some ⟨p,0,none⟩)] w λe w'=>∃d,e= .returned (.tuple #[.pointer (some ⟨d,0,none⟩),.int .i64 0])/\Am w' d (D3 H M)/\B0 B5 w (J0 d) w':=by
 have Z:=C6x (h.home _ _ (B0.refl B5 w) 1 (by have:=W.hM;omega))
 have HV:=C6x h
 have I:=C6x W
 obtain⟨X,U⟩:∃X,X=H 1:=⟨_,rfl⟩
 rw[<-U]at Z
 have J:=C6x U
 clear U h W
 go_enter Tryz.func99,Tryz.ntmps99
 go_wp2_with (first
  |(go_at_call 94;refine Z.out.mono ?_;rintro e w1 ⟨z,rfl,aC,aA,hr,hl,V⟩;have HI:=C6x (RdR.in_ aA hr hl (by rw[J.out];exact(I.out.row 1 (by have:=I.out.hM;omega)).2));have HA:=C6x V;obtain⟨l1,c0,hh⟩:=HV.out.homes _ _ V;have aB:=C6x hh;clear aC aA hr hl V hh)
  |(go_at_call 65;refine aB.out.mono ?_;rintro e w2 ⟨rfl,k2,rfl⟩)
  |(go_at_call 24;refine(B19 _ X M _ ((HI.out.far ((B0.refl B5 w1).drewN k2).toBelow)) (by rw[J.out];exact I.out.map)).mono ?_;rintro e w3 ⟨d,rfl,h1,h2⟩;have Y:=C6x (And.intro h1 ((HA.out.drewN k2).trans h2));clear h1 h2)
  |fail)
 go_ret2
 exact⟨d,rfl,by unfold D3;rw[<-J.out];exact Y.out.1,Y.out.2⟩
theorem B4N(h:Rdv w p M H)(W:Sd H M)(i:Nat)(h1:1<=i)(h2:i<=40):Calls Tryz.prog 43 #[.pointer (some ⟨p,0,none⟩),.int .i64 (i:Int)] w (A8f w (C9 H i) 0):=by
 have aA:=C6x (λV (a:B0 B5 w B5 V)=>h.home _ V a (1+i) (by have:=W.hM;omega))
 obtain⟨j,hj⟩:∃j,j=1+i:=⟨_,rfl⟩
 have hw:IntKind.i64.wrap (1+(i:Int))=(j:Int):=by rw[IntKind.wrap_i64];omega
 obtain⟨X,J⟩:∃X,X=H (1+i):=⟨_,rfl⟩
 rw[<-J,<-hj]at aA
 have HX:=C6x J
 have HB:=C6x (show∀x∈X,x<256 by rw[J];exact(W.row _ (by have:=W.hM;omega)).2)
 have Z:=C6x (show dI X=C9 H i/\eI X=0 by rw[J];exact⟨rfl,(W.dec h1 h2).2.1⟩)
 clear J h W h1 h2 hj
 go_enter Tryz.func43,Tryz.ntmps43
 go_wp2_with (first
  |(refine B9 rfl rfl C6 ?_;intro z w0 hz U I;have HZ:=C6x hz;have aH:=C6x U;have Y:=C6x I;clear hz U I)
  |(go_at_call 94;refine(aA.out _ Y.out).mono ?_;rintro e w1 ⟨y,rfl,aI,aJ,hr,hl,I⟩;have HR:=C6x hr;have HL:=C6x hl;have aB:=C6x (Y.out.trans I);have aE:=C6x (aH.out.over I);clear aI aJ hr hl I)
  |(go_at_call 25;refine(A3D _ X w1 (by rw[HL.out];exact HR.out) HB.out).mono ?_;rintro e w2 ⟨rfl,I⟩;rw[Z.out.1,Z.out.2];have aC:=C6x (aB.out.trans I);have aF:=C6x (aE.out.over I);clear I)
  |(refine B7 rfl _ _ rfl z aF.out rfl rfl C0 (C2 _) (C2 _) (D5 _) ?_;intro w3 U I;have aG:=C6x U;have aD:=C6x (aC.out.fresh HZ.out I);clear U I)
  |fail)
 exact bodyPost_ret (V4 rfl _ _ rfl rfl aG.out Tryz.underlying62 rfl (by rw[C0];rfl)) rfl ⟨rfl,aD.out⟩
end
end
section
open Go.RowKit
section
variable {p M:Nat} {H:Nat->List Nat} {w:World}
theorem A7m(h:Rdv w p M H)(hs:Sd H M)(i g:Int):Calls Tryz.prog 75 #[.pointer (some ⟨p,0,none⟩),.agg #[.int .i64 i,.int .i64 g]] w (A8f w (fileX H i g) (fileE H i g)):=by
 have HV:=C6x h
 have HS:=C6x hs
 clear h hs
 by_cases hr:i<1\/40<i
 ·have W:fileE H i g=14:=by unfold fileE;rw[if_pos hr]
  have hx:fileX H i g=J9:=(A2t (by rw[W];decide)).1
  rw[W,hx]
  clear W hx
  rcases hr with hr|hr
  all_goals
   go_enter Tryz.func75,Tryz.ntmps75
   go_wp2_with (first
    |(refine C5 rfl _ rfl rfl ?_;intro z0 w0 U J I;have aC:=C6x J;have X:=C6x I;clear U J I)
    |(refine B9 rfl rfl C6 ?_;intro z w1 U J I;have HZ:=C6x (Nat.le_trans X.out.size U);have aD:=C6x J;have Z:=C6x (X.out.trans I);have c0:=(aC.out.over I).cell 0;clear U J I)
    |(refine T1 rfl rfl ?_)
    |(refine B7 rfl _ _ rfl z aD.out rfl rfl C0 (C2 _) (C2 _) (D5 _) ?_;intro w3 J I;have aU:=C6x J;have aT:=C6x (Z.out.fresh HZ.out I);clear J I)
    |fail)
   exact bodyPost_ret (V4 rfl _ _ rfl rfl aU.out Tryz.underlying62 rfl (by rw[C0];rfl)) rfl ⟨rfl,aT.out⟩
 ·obtain⟨n,rfl⟩:∃n:Nat,i=(n:Int):=⟨i.toNat,by omega⟩
  have h1:(1:Int)<=(n:Int):=by omega
  have h2:(n:Int)<=40:=by omega
  have aP:=C6x (λV (a:B0 B5 w B5 V)=>B4N (HV.out.step a) HS.out n (by omega) (by omega))
  obtain⟨x,hx⟩:∃x,x=C9 H n:=⟨_,rfl⟩
  rw[<-hx]at aP
  have hE:fileE H (n:Int) g=if x.k=0\/x.g≠g then 14 else 0:=by
   unfold fileE
   rw[if_neg (by omega),Int.toNat_natCast,<-hx]
  by_cases hk:x.k=0
  ·have W:fileE H (n:Int) g=14:=by rw[hE,if_pos (.inl hk)]
   rw[W,(A2t (by rw[W];decide)).1]
   clear W hE hr hx
   go_enter Tryz.func75,Tryz.ntmps75
   go_wp2_with (first
    |(refine C5 rfl _ rfl rfl ?_;intro z0 w0 U J I;have aC:=C6x J;have X:=C6x I;clear U J I)
    |(refine B9 rfl rfl C6 ?_;intro z w1 U J I;have HZ:=C6x (Nat.le_trans X.out.size U);have aD:=C6x J;have Z:=C6x (X.out.trans I);have c0:=(aC.out.over I).cell 0;clear U J I)
    |(go_at_call 43;refine(aP.out _ Z.out).mono ?_;rintro e w2 ⟨rfl,I⟩;have aA:=C6x (Z.out.trans I);have aB:=C6x (aD.out.over I);clear I)
    |(refine B9 rfl rfl C6 ?_;intro Y w5 U J I;have aL:=C6x J;have aF:=C6x (aA.out.trans I);have aK:=C6x (aB.out.over I);have aE:=C6x (show z≠Y fromλe=>by have:=aB.out.lt;omega);have aO:=C6x (Nat.le_trans aA.out.size U);clear U J I)
    |(refine B7 rfl _ _ rfl Y aL.out rfl rfl C0 (C2 _) (C2 _) (D5 _) ?_;intro w6 J I;have aM:=C6x (aK.out.far1 I aE.out);have aG:=C6x (aF.out.fresh aO.out I);have c6:=J.cell 0;clear J I;simp only[ic]at c6;rw[hk]at c6)
    |(refine T1 rfl rfl ?_)
    |(refine B7 rfl _ _ rfl z aM.out rfl rfl C0 (C2 _) (C2 _) (D5 _) ?_;intro w7 J I;have aN:=C6x J;have aH:=C6x (aG.out.fresh HZ.out I);clear J I)
    |fail)
   exact bodyPost_ret (V4 rfl _ _ rfl rfl aN.out Tryz.underlying62 rfl (by rw[C0];rfl)) rfl ⟨rfl,aH.out⟩
  ·have aX:(x.k==0)=false:=by rw[beq_eq_false_iff_ne];exact hk
   by_cases hg:x.g=g
   ·have W:fileE H (n:Int) g=0:=by rw[hE,if_neg (λe=>by rcases e with e|e;exact hk e;exact e hg)]
    have hX:fileX H (n:Int) g=x:=by rw[(R5 W).2.2.2.2,Int.toNat_natCast,hx]
    rw[W,hX]
    have aW:(x.g !=g)=false:=by rw[hg,bne_self_eq_false]
    clear W hX hE hr hx hk hg
    go_enter Tryz.func75,Tryz.ntmps75
    go_wp2_with (first
     |(refine C5 rfl _ rfl rfl ?_;intro z0 w0 U J I;have aC:=C6x J;have X:=C6x I;clear U J I)
     |(refine B9 rfl rfl C6 ?_;intro z w1 U J I;have HZ:=C6x (Nat.le_trans X.out.size U);have aD:=C6x J;have Z:=C6x (X.out.trans I);have aI:=C6x (aC.out.over I);have c0:=aI.out.cell 0;clear U J I)
     |(go_at_call 43;refine(aP.out _ Z.out).mono ?_;rintro e w2 ⟨rfl,I⟩;have aA:=C6x (Z.out.trans I);have aB:=C6x (aD.out.over I);have aJ:=C6x (aI.out.over I);clear I)
     |(refine B9 rfl rfl C6 ?_;intro Y w5 U J I;have aL:=C6x J;have aF:=C6x (aA.out.trans I);have aK:=C6x (aB.out.over I);have aQ:=C6x (aJ.out.over I);have aE:=C6x (show z≠Y/\z0≠Y from⟨λe=>by have:=aB.out.lt;omega,λe=>by have:=aJ.out.lt;omega⟩);have aO:=C6x (Nat.le_trans aA.out.size U);clear U J I)
     |(refine B7 rfl _ _ rfl Y aL.out rfl rfl C0 (C2 _) (C2 _) (D5 _) ?_;intro w6 J I;have aM:=C6x (aK.out.far1 I aE.out.1);have aS:=C6x J;have aG:=C6x (aF.out.fresh aO.out I);have c6:=J.cell 0;have aR:=J.cell 1;have aV:=(aQ.out.far1 I aE.out.2).cell 1;clear J I;simp only[ic]at c6 aR)
     |(refine B6 rfl _ rfl Y aS.out rfl Tryz.underlying62 rfl C0 (C2 _) ?_)
     |(refine B7 rfl _ _ rfl z aM.out rfl rfl C0 (C2 _) (C2 _) (D5 _) ?_;intro w7 J I;have aN:=C6x J;have aH:=C6x (aG.out.fresh HZ.out I);clear J I)
     |fail)
    exact bodyPost_ret (V4 rfl _ _ rfl rfl aN.out Tryz.underlying62 rfl (by rw[C0];rfl)) rfl ⟨rfl,aH.out⟩
   ·have W:fileE H (n:Int) g=14:=by rw[hE,if_pos (.inr hg)]
    rw[W,(A2t (by rw[W];decide)).1]
    have aW:(x.g !=g)=true:=by rw[bne_iff_ne];exact hg
    clear W hE hr hx hk hg
    go_enter Tryz.func75,Tryz.ntmps75
    go_wp2_with (first
     |(refine C5 rfl _ rfl rfl ?_;intro z0 w0 U J I;have aC:=C6x J;have X:=C6x I;clear U J I)
     |(refine B9 rfl rfl C6 ?_;intro z w1 U J I;have HZ:=C6x (Nat.le_trans X.out.size U);have aD:=C6x J;have Z:=C6x (X.out.trans I);have aI:=C6x (aC.out.over I);have c0:=aI.out.cell 0;clear U J I)
     |(go_at_call 43;refine(aP.out _ Z.out).mono ?_;rintro e w2 ⟨rfl,I⟩;have aA:=C6x (Z.out.trans I);have aB:=C6x (aD.out.over I);have aJ:=C6x (aI.out.over I);clear I)
     |(refine B9 rfl rfl C6 ?_;intro Y w5 U J I;have aL:=C6x J;have aF:=C6x (aA.out.trans I);have aK:=C6x (aB.out.over I);have aQ:=C6x (aJ.out.over I);have aE:=C6x (show z≠Y/\z0≠Y from⟨λe=>by have:=aB.out.lt;omega,λe=>by have:=aJ.out.lt;omega⟩);have aO:=C6x (Nat.le_trans aA.out.size U);clear U J I)
     |(refine B7 rfl _ _ rfl Y aL.out rfl rfl C0 (C2 _) (C2 _) (D5 _) ?_;intro w6 J I;have aM:=C6x (aK.out.far1 I aE.out.1);have aS:=C6x J;have aG:=C6x (aF.out.fresh aO.out I);have c6:=J.cell 0;have aR:=J.cell 1;have aV:=(aQ.out.far1 I aE.out.2).cell 1;clear J I;simp only[ic]at c6 aR)
     |(refine T1 rfl rfl ?_)
     |(refine B7 rfl _ _ rfl z aM.out rfl rfl C0 (C2 _) (C2 _) (D5 _) ?_;intro w7 J I;have aN:=C6x J;have aH:=C6x (aG.out.fresh HZ.out I);clear J I)
     |fail)
    exact bodyPost_ret (V4 rfl _ _ rfl rfl aN.out Tryz.underlying62 rfl (by rw[C0];rfl)) rfl ⟨rfl,aH.out⟩
end
end
end Go.Proofs.YtbefmjiclpobjaaGreat
