import Derived.Test.YtbefmjiclpobjaaGreatMh15
import Derived.Lib.Bytealg
import Derived.Lib.Walk
import Derived.ArgAppend
import Derived.Deep.Slices
import Derived.Deep.Fields
import Derived.BigQuiet
import Derived.Deep.QuietTactic
import Derived.Lib.AppendZeros
import Derived.Test.YtbefmjiclpobjaaGreatMh09
import Derived.Test.YtbefmjiclpobjaaGreatMh12
import Derived.Test.YtbefmjiclpobjaaGreatMh13
namespace Go.Proofs.YtbefmjiclpobjaaGreat
set_option maxHeartbeats 3200000
set_option maxRecDepth 3000
section
open Go.ChangeShapes Go.WideShapes Go.ChangeAt Go.RowKit
def cI(a b:ByteArray):Int:=Lib.compareBytes a.data.toList b.data.toList
theorem C0l:∀(a b:List UInt8),(Lib.compareBytes a b<0↔a<b)/\(Lib.compareBytes a b=0↔a=b)/\ -1<=Lib.compareBytes a b/\Lib.compareBytes a b<=1
 |[],[]=>by simp[Lib.compareBytes]
 |[],_::_=>by simp[Lib.compareBytes]
 |_::_,[]=>by simp[Lib.compareBytes]
 |a::x,b::y=>by
  have U:=C0l x y
  unfold Lib.compareBytes
  by_cases J:a<b
  ·have I:a≠b:=λe=>by subst e;exact UInt8.lt_irrefl a J
   simp[J,I,List.cons_lt_cons_iff]
  ·by_cases I:b<a
   ·have h3:a≠b:=λe=>by subst e;exact UInt8.lt_irrefl a I
    simp[J,I,h3,List.cons_lt_cons_iff]
   ·obtain rfl:a=b:=UInt8.le_antisymm (UInt8.not_lt.1 I) (UInt8.not_lt.1 J)
    simpa[List.cons_lt_cons_iff]using U
theorem C1H(a b:ByteArray):decide (cI a b<0)=decide (ltS a b):=by
 unfold cI ltS
 exact decide_eq_decide.2 (C0l _ _).1
theorem C1J(a b:ByteArray):(cI a b==0)=decide (a=b):=by
 have h:=(C0l a.data.toList b.data.toList).2.1
 by_cases e:a=b
 ·subst e;rw[decide_eq_true rfl];unfold cI;rw[h.2 rfl];rfl
 ·rw[decide_eq_false e,beq_eq_false_iff_ne];exactλc=>e (V4 (h.1 c))
theorem B6t(a b:ByteArray)(w:World):Calls Tryz.prog 203 #[.string a,.string b] w λe w'=>e= .returned (.int .i64 (cI a b))/\w=w':=by
 go_enter Tryz.func203,Tryz.ntmps203
 go_wp2
 rw[run_callFunc_extern Tryz.func219 (by kernel_rfl) (by kernel_rfl) (by kernel_rfl) (e:=Extern.BytealgCompare.compare) (by kernel_rfl),Lib.run_compareString]
 simp only[Result.andThen]
 rw[Oper.upon_value]
 go_wp2
 go_ret
 exact⟨rfl,rfl⟩
theorem B6u(a b:ByteArray)(w:World):Calls Tryz.prog 179 #[.string a,.string b] w λe w'=>e= .returned (.int .i64 (cI a b))/\w=w':=by
 go_enter Tryz.func179,Tryz.ntmps179
 go_wp2_with (go_at_call 203;refine(B6t _ _ _).mono ?_;rintro e w' ⟨rfl,rfl⟩)
 go_ret
 exact⟨rfl,rfl⟩
theorem A97(e:En)(s:ByteArray)(w:World):Calls Tryz.prog 178 #[.agg (ea e),.string s] w λx w'=>x= .returned (.int .i64 (cI e.s s))/\A8 B0 w B0 w':=by
 have J:=C3t ((A8.refl B0 w).alloc (.cells (ea e) 74))
 obtain⟨I,i,g,k⟩:=e
 have U:(w.alloc (.cells (ea ⟨I,i,g,k⟩) 74)).cell? ⟨w.heap.size,0,none⟩=some (.string I):=(C0.new w 74 (ea ⟨I,i,g,k⟩)).e4.all.1
 go_enter Tryz.func178,Tryz.ntmps178
 go_wp2_with (first
  |(go_at_call 179;refine(B6u _ _ _).mono ?_;rintro e w' ⟨rfl,rfl⟩)
  |fail)
 go_ret
 exact⟨rfl,J.out⟩
def BiL(w:World)(l:List En)(s:ByteArray)(t9 t10:Value)(wr:World):Prop:=∃i j:Nat,i<=j/\j<=l.length/\t9= .int .i64 (i:Int)/\t10= .int .i64 (j:Int)/\(∀(k:Nat) (x:En),l[k]? =some x->k<i->ltS x.s s)/\(∀(k:Nat) (x:En),l[k]? =some x->j<=k->¬ltS x.s s)/\A8 B0 w B0 wr
def C0m(w:World)(l:List En)(s:ByteArray)(x:Ending)(w':World):Prop:=∃(p:Nat) (F:Bool),A0l l s p F/\x= .returned (.tuple #[.int .i64 (p:Int),.bool F])/\A8 B0 w B0 w'
theorem B4j(v:Value)(l:List En)(s:ByteArray)(w:World)(h:M8 w v l)(hr:Ris l)(hl:l.length<=1000):Calls Tryz.prog 177 #[v,.string s,.func (.func 178) #[] #[]] w (C0m w l s):=by
 obtain⟨A,c,rfl,aQ,aN⟩:=h.form
 obtain⟨N,hN⟩:∃N,N=l.length:=⟨_,rfl⟩
 rw[<-hN]at h hl⊢
 have HH:=C3t h
 have J:=C3t hN
 have HR:=C3t hr
 have aU:(N:Int)<=1000:=by omega
 clear h hr aQ aN hN hl
 go_enter Tryz.func177,Tryz.ntmps177
 go_wp2_with fail
 go_loopw [9,10] (BiL w l s) (λt u _=>(intOf u).toNat-(intOf t).toNat)
 case atStart=>exact⟨0,N,Nat.zero_le _,by rw[J.out];exact Nat.le_refl _,rfl,rfl,λk x _ h=>absurd h (Nat.not_lt_zero _),λk x h1 h2=>absurd (List.getElem?_eq_some_iff.1 h1).1 (by rw[<-J.out];omega),A8.refl _ _⟩
 case round=>
  obtain⟨i,j,aK,X,rfl,rfl,aL,aJ,ha⟩:=hrel
  rw[<-J.out]at X
  have aE:=C3t aL
  have aD:=C3t aJ
  have Z:=C3t ha
  clear aL aJ ha
  by_cases U:i<j
  ·have aO:(i:Int)<(j:Int):=by omega
   obtain⟨m,hm⟩:∃m,m=(i+j)/2:=⟨_,rfl⟩
   have aH:i<=m/\m<j:=by omega
   have aP:(j:Int)<=1000:=by omega
   go_upto_region 5 with(fail)
   rw[show((i:Int)+(j:Int))/2=(m:Int)by omega]
   have aI:m<l.length:=by rw[<-J.out];omega
   have aT:(m:Int)<(N:Int):=by rw[J.out];omega
   obtain⟨b,o,rfl,hb,g0,g1,g2,g3⟩:=(HH.out.step Z.out).at_ J.out aI
   have I:=List.getElem?_eq_getElem aI
   obtain⟨e,he⟩:∃e,e=l[m]:=⟨_,rfl⟩
   rw[<-he]at g0 g1 g2 g3 I
   obtain⟨q,Y⟩:∃q,q=cI e.s s:=⟨_,rfl⟩
   have HC:=C3t (A97 e s wr)
   rw[<-Y]at HC
   have HX:=C3t I
   have aA:=C3t (show i<=m/\m<j/\j<=N from⟨aH.1,aH.2,X⟩)
   have aM:(decide (q<0))=decide (ltS e.s s):=by rw[Y,C1H]
   have HQ:=C3t aM
   clear aI he Y aM I hm aH hb aK X U aO aP
   obtain⟨s0,i0,g,k0⟩:=e
   simp only at g0 g1 g2 g3 HQ
   by_cases U:ltS s0 s
   ·have aR:q<0:=by have:=HQ.out;rw[decide_eq_true U]at this;exact of_decide_eq_true this
    have aC:=C3t U
    clear U
    go_wp2_with (first
     |(go_at_call 178;refine HC.out.mono ?_;rintro x w2 ⟨rfl,V⟩;have aB:=C3t (Z.out.trans V);clear V)
     |fail)
    refine⟨⟨m+1,j,by have:=aA.out;omega,by rw[<-J.out];exact aA.out.2.2,by go_num,rfl,λk x I hk=>?_,aD.out,aB.out⟩,by have:=aA.out;simp[intOf]<;>omega⟩
    by_cases e:k=m
    ·subst e;rw[HX.out]at I;rw[<-Option.some.inj I];exact aC.out
    ·exact A08 (HR.out.lt I HX.out (by omega)) aC.out
   ·have aR:¬q<0:=by have:=HQ.out;rw[decide_eq_false U]at this;exact of_decide_eq_false this
    have aC:=C3t U
    clear U
    go_wp2_with (first
     |(go_at_call 178;refine HC.out.mono ?_;rintro x w2 ⟨rfl,V⟩;have aB:=C3t (Z.out.trans V);clear V)
     |fail)
    refine⟨⟨i,m,by have:=aA.out;omega,by have:=aA.out;have:=J.out;omega,rfl,rfl,aE.out,λk x I hk=>?_,aB.out⟩,by have:=aA.out;simp[intOf]<;>omega⟩
    by_cases e:k=m
    ·subst e;rw[HX.out]at I;rw[<-Option.some.inj I];exact aC.out
    ·exactλc=>aC.out (A08 (HR.out.lt HX.out I (by omega)) c)
  ·obtain rfl:j=i:=by omega
   clear aK U
   by_cases aF:j<N
   ·have aG:j<l.length:=by rw[<-J.out];exact aF
    have aS:(j:Int)<(N:Int):=by omega
    obtain⟨b,o,rfl,hb,g0,g1,g2,g3⟩:=(HH.out.step Z.out).at_ J.out aG
    have I:=List.getElem?_eq_getElem aG
    obtain⟨e,he⟩:∃e,e=l[j]:=⟨_,rfl⟩
    rw[<-he]at g0 g1 g2 g3 I
    obtain⟨q,Y⟩:∃q,q=cI e.s s:=⟨_,rfl⟩
    have HC:=C3t (A97 e s wr)
    rw[<-Y]at HC
    obtain⟨F,hF⟩:∃F,F=decide (e.s=s):=⟨_,rfl⟩
    have aV:(q==0)=F:=by rw[hF,Y,C1J]
    have HF:=C3t (show A0l l s j F from⟨by rw[<-J.out];exact X,aE.out,aD.out,by
     rw[hF,I]
     constructor
     ·exactλh=>⟨e,rfl,of_decide_eq_true h⟩
     ·rintro⟨y,h1,h2⟩;rw[<-Option.some.inj h1]at h2;exact decide_eq_true h2⟩)
    clear aG he Y I hb aF hF X
    obtain⟨s0,i0,g,k0⟩:=e
    simp only at g0 g1 g2 g3
    go_wp2_with (first
     |(go_at_call 178;refine HC.out.mono ?_;rintro x w2 ⟨rfl,V⟩;have aB:=C3t (Z.out.trans V);clear V)
     |fail)
    go_ret2
    exact⟨j,F,HF.out,rfl,aB.out⟩
   ·obtain rfl:j=N:=by omega
    have HF:=C3t (show A0l l s j false from⟨by rw[<-J.out];exact X,aE.out,aD.out,by
     constructor
     ·exactλh=>by cases h
     ·rintro⟨y,h1,_⟩;have:=(List.getElem?_eq_some_iff.1 h1).1;rw[<-J.out]at this;omega⟩)
    clear aF X
    go_wp2_with fail
    go_ret2
    exact⟨j,false,HF.out,rfl,Z.out⟩
theorem A98(v:Value)(l:List En)(s:ByteArray)(w:World)(h:M8 w v l)(Z:Ris l)(Y:l.length<=1000):Calls Tryz.prog 140 #[v,.string s] w (C0m w l s):=by
 have V:=C3t (B4j v l s w h Z Y)
 clear h
 go_enter Tryz.func140,Tryz.ntmps140
 go_wp2_with (first
  |(go_at_call 177;refine V.out.mono ?_;rintro x w2 ⟨p,F,J,rfl,I⟩;have X:=C3t J;have U:=C3t I;clear I J)
  |fail)
 go_ret2
 exact⟨p,F,X.out,rfl,U.out⟩
end
section
open Go.ChangeShapes Go.WideShapes Go.ChangeAt Go.RowKit
theorem M8.tfront{w:World}{A:Option Addr}{N c c' p:Nat}{l:List En}(h:M8 w (.slice A N c) l)(hN:N=l.length)(hp:p<=N)(X:p<=c')(Y:c'<=maxLen)(h3:A=none->c'=0):M8 w (.slice A p c') (l.take p):=by
 obtain⟨⟨A',k,e,a1,a2,a3,a4,J⟩,hs⟩:=h
 injection e with e1 e2 e3
 subst e1 e3
 have e:(l.take p).length=p:=by rw[List.length_take];omega
 refine⟨⟨A,c',by rw[e],by rw[e];exact X,Y,by rw[S8],h3,λV=>?_⟩,λx hx=>hs x (List.mem_of_mem_take hx)⟩
 rw[e]at V
 obtain⟨U,rfl,Z,hc⟩:=J (by omega)
 refine⟨U,rfl,Z,λj u I=>hc j u ?_⟩
 rw[A9r,List.getElem?_take]at I
 split at I
 ·exact I
 ·cases I
theorem M8.tback{w:World}{J I:Addr}{N c p:Nat}{l:List En}(h:M8 w (.slice (some J) N c) l)(hN:N=l.length)(hp:p<=N)(Y:p<N->I.block=J.block/\∀j,I.add j=J.add (p * 4+j)):M8 w (.slice (some I) (N-p) (c-p)) (l.drop p):=by
 obtain⟨⟨A',k,e,a1,a2,a3,a4,V⟩,hs⟩:=h
 injection e with e1 e2 e3
 subst e3
 have e:(l.drop p).length=N-p:=by rw[List.length_drop];omega
 refine⟨⟨some I,c-p,by rw[e],by rw[e];omega,by omega,by rw[S8],λh=>(by cases h),λX=>?_⟩,λx hx=>hs x (List.mem_of_mem_drop hx)⟩
 rw[e]at X
 obtain⟨aA,U,Z,hc⟩:=V (by omega)
 rw[<-e1]at U
 obtain rfl:=Option.some.inj U
 obtain⟨k1,k2⟩:=Y (by omega)
 refine⟨I,rfl,by rw[k1];exact Z,λj u hu=>?_⟩
 rw[k2]
 refine hc _ u ?_
 rwa[A9s,List.getElem?_drop]at hu
def bh(l:List En)(p:Nat)(F:Bool):List En:=l.drop (if F then p+1 else p)
structure ArR (w:World) (l:List En) (s:ByteArray) (x:Ending) (w':World):Prop where
 ex:∃(p:Nat) (F:Bool) (A1 A2:Option Addr) (c2:Nat),A0l l s p F/\x= .returned (.tuple #[.slice A1 p p,.slice A2 (bh l p F).length c2])/\M8 w' (.slice A1 p p) (l.take p)/\M8 w' (.slice A2 (bh l p F).length c2) (bh l p F)/\A8 B0 w B0 w'
theorem B1n(v:Value)(l:List En)(s:ByteArray)(w:World)(h:M8 w v l)(hr:Ris l)(hl:l.length<=1000):Calls Tryz.prog 180 #[v,.string s] w (ArR w l s):=by
 have HB:=C3t (A98 v l s w h hr hl)
 obtain⟨A,c,rfl,aL,aI⟩:=h.form
 obtain⟨N,hN⟩:∃N,N=l.length:=⟨_,rfl⟩
 rw[<-hN]at h hl HB aL⊢
 have Y:=C3t h
 have I:=C3t hN
 unfold C0m at HB
 have aR:(N:Int)<=1000:=by omega
 have aH:(N:Int)<=(c:Int)/\(c:Int)<=9223372036854775807:=by unfold maxLen at aI;omega
 obtain⟨aP,aQ⟩:=aH
 clear h hr hN hl
 rcases A with _|ad
 ·obtain rfl:c=0:=by obtain⟨⟨_,_,e,_,_,_,h4,_⟩,_⟩:=Y.out;injection e with e1 e2 e3;rw[e3];exact h4 e1.symm
  obtain rfl:N=0:=by omega
  have aK:l=[]:=List.eq_nil_of_length_eq_zero I.out.symm
  subst aK
  go_enter Tryz.func180,Tryz.ntmps180
  go_upto_region 2 with(first
   |(go_at_call 140;refine HB.out.mono ?_;rintro x w2 ⟨p,F,Z,rfl,a2⟩;obtain rfl:p=0:=Nat.le_zero.1 Z.le;obtain rfl:F=false:=(by cases F with|false=>rfl|true=>obtain⟨y,hy,_⟩:=Z.at_.1 rfl;simp at hy);have X:=C3t Z;have J:=C3t a2;clear a2 Z)
   |fail)
  go_quiet (fail)
  go_wp2_with fail
  go_ret2
  refine⟨⟨0,false,none,none,0,X.out,rfl,?_,?_,J.out.drewN _⟩⟩
  ·exact(EnO.nil _).rd
  ·exact(EnO.nil _).rd
 ·go_enter Tryz.func180,Tryz.ntmps180
  go_upto_region 2 with(first
   |(go_at_call 140;refine HB.out.mono ?_;rintro x w2 ⟨p,F,Z,rfl,a2⟩;have X:=C3t Z;have J:=C3t a2;clear a2 Z)
   |fail)
  have hp:p<=N:=by rw[I.out];exact X.out.le
  have aT:(p:Int)<=(N:Int):=by omega
  have aS:(p:Int)<=(c:Int):=by omega
  cases F with
  |false=>
   have aD:(bh l p false).length=N-p:=by unfold bh;rw[if_neg (by decide),List.length_drop,I.out]
   have aC:=(Y.out.step J.out).tfront (c':=p) I.out hp (Nat.le_refl _) (by omega) (λe=>by cases e)
   have aB:=C3t aC
   have U:=C3t aD
   have aE:=C3t hp
   clear aD aC hp
   by_cases aJ:c=p
   ·have V:M8 w2 (.slice (some ad) (N-p) (c-p)) (bh l p false):=(Y.out.step J.out).tback I.out aE.out (λh=>by omega)
    rw[show c-p=0 by omega]at V
    have aA:=C3t V
    clear V
    go_quiet (fail)
    go_wp2_with fail
    go_ret2
    refine⟨⟨p,false,_,_,_,X.out,by rw[U.out];rfl,?_,?_,J.out.drewN _⟩⟩
    ·exact aB.out.step ((A8.refl B0 _).drewN _)
    ·rw[U.out]
     exact aA.out.step ((A8.refl B0 _).drewN _)
   ·have V:M8 w2 (.slice (some (ad.add (p * 4))) (N-p) (c-p)) (bh l p false):=(Y.out.step J.out).tback I.out aE.out (λ_=>⟨by simp[A18],λj=>by rw[Go.Deep.add_add]⟩)
    have aA:=C3t V
    clear V
    go_quiet (fail)
    go_wp2_with fail
    go_ret2
    refine⟨⟨p,false,_,_,_,X.out,by rw[U.out];rfl,?_,?_,J.out.drewN _⟩⟩
    ·exact aB.out.step ((A8.refl B0 _).drewN _)
    ·rw[U.out]
     exact aA.out.step ((A8.refl B0 _).drewN _)
  |true=>
   have aG:p<N:=by
    obtain⟨y,hy,_⟩:=X.out.at_.1 rfl
    rw[I.out];exact(List.getElem?_eq_some_iff.1 hy).1
   obtain⟨b,o,e,aM⟩:=Y.out.at_ (i:=p) I.out (by rw[<-I.out];exact aG)
   clear aM
   injection e with e
   subst e
   have aD:(bh l p true).length=N-p-1:=by unfold bh;rw[if_pos rfl,List.length_drop,I.out];omega
   have aC:=(Y.out.step J.out).tfront (c':=p) I.out hp (Nat.le_refl _) (by omega) (λe=>by cases e)
   have aB:=C3t aC
   have U:=C3t aD
   have aE:=C3t hp
   have V:M8 w2 (.slice (some ⟨b,o+p * 4,none⟩) (N-p) (c-p)) (l.drop p):=(Y.out.step J.out).tback I.out hp (λ_=>⟨rfl,λj=>by rw[add_none,add_none,Nat.add_assoc]⟩)
   have aF:∀a':Addr,(c-p≠1->a'.block=(⟨b,o+p * 4,none⟩:Addr).block/\∀j,a'.add j=(⟨b,o+p * 4,none⟩:Addr).add (1 * 4+j))->M8 w2 (.slice (some a') (N-p-1) (c-p-1)) (bh l p true):=λa' h=>by
    show M8 w2 _ (l.drop (p+1))
    rw[<-List.drop_drop]
    exact V.tback (by rw[List.length_drop,I.out]) (by omega) (λh1=>h (by omega))
   have aA:=C3t aF
   have aJ:¬c=p:=by omega
   have aO:(1:Int)<=((N-p:Nat):Int):=by omega
   have aN:((N-p:Nat):Int)<=((c-p:Nat):Int):=by omega
   clear V aF aC aD hp aG
   by_cases h1:c-p=1
   ·go_quiet (fail)
    go_wp2_with fail
    go_ret2
    refine⟨⟨p,true,_,_,_,X.out,by rw[U.out];rfl,?_,?_,J.out.drewN _⟩⟩
    ·exact aB.out.step ((A8.refl B0 _).drewN _)
    ·rw[U.out]
     have:=aA.out (⟨b,o+p * 4,none⟩:Addr) (λh=>absurd h1 h)
     rw[h1]at this
     exact this.step ((A8.refl B0 _).drewN _)
   ·go_quiet (fail)
    go_wp2_with fail
    go_ret2
    refine⟨⟨p,true,_,_,_,X.out,by rw[U.out];rfl,?_,?_,J.out.drewN _⟩⟩
    ·exact aB.out.step ((A8.refl B0 _).drewN _)
    ·rw[U.out]
     exact(aA.out _ (λ_=>⟨rfl,λj=>by rw[add_none,add_none,Nat.add_assoc]⟩)).step ((A8.refl B0 _).drewN _)
end
section
open Go.ChangeShapes Go.WideShapes Go.ChangeAt Go.RowKit
theorem EnO.since{W V w:World}{l:List En}{v:Value}(h:EnO V l v w)(a:A8 B0 W B0 V):EnO W l v w:=by
 obtain⟨F,I,J⟩:=h.ex
 exact⟨⟨F,I,a.trans J⟩,h.sz⟩
theorem A3J{w:World}{ty:TypeId}{A:Option Addr}{p:Nat}{l m:List En}{aA:Value}(h:M8 w (.slice A p p) l)(hp:p=l.length)(X:M8 w aA m)(hm:0<m.length)(hn:l.length+m.length<=1000000):
 ∃I w',(Builtin.append_ #[66,66] ty #[.slice A p p,aA]).run Tryz.prog w= .ok I w'/\EnO w (l++m) I w':=by
 subst hp
 have aG:∀e∈l++m,e.s.size<=maxLen:=λe he=>by
  rcases List.mem_append.1 he with Y|Y
  ·exact h.sz e Y
  ·exact X.sz e Y
 obtain⟨A',k,e,a1,a2,a3,a4,a5⟩:=h.rd
 injection e with e1 _ e3
 subst e1 e3
 rcases A with _|ad
 ·have h0:l.length=0:=a4 rfl
  obtain rfl:l=[]:=List.eq_nil_of_length_eq_zero h0
  have aE:=(EnO.nil w).more (m:=m) X.sz
  obtain⟨I,w',Z,J,h3,h4⟩:=A2i (ty:=ty) (n:=0) (World.ownsRow_nil w 0 74 4) X.rd (A7Q m) (by simpa using hn)
  exact⟨I,w',Z,aE.2 w I w' (A8.refl _ _) (by simpa[ecs]using J) h3 h4⟩
 ·obtain⟨i0,hi,aH,aI,aJ⟩:=info_parts A6V
  obtain⟨B,c,rfl,b1,b2,b3,b4,b5⟩:=X.rd
  obtain⟨bd,rfl,aL,aD⟩:=b5 hm
  have aF:∀j u,(ecs l)[j]? =some u->w.cell? (ad.add j)=some u:=λj u hu=>by
   have hl:0<l.length:=by
    have:=(List.getElem?_eq_some_iff.1 hu).1
    rw[S8]at this;omega
   obtain⟨aK,e,_,hc⟩:=a5 hl
   obtain rfl:=Option.some.inj e
   exact hc j u hu
  obtain⟨I,w',Z,J,h3⟩:=run_append_arg_grows (P:=Tryz.prog) (w:=w) 66 ty 74 i0 _ 4 40 Tryz.underlying66 hi aH aI aJ rfl (by decide) ad l.length l.length (ecs l) (S8 l) aF bd m.length c (ecs m) (S8 m) aD (by omega) (by unfold maxLen;omega) (by omega)
  refine⟨I,w',Z,⟨⟨λk=>I.ownBlock=some k,⟨?_,λ_ V=>V,λk V=>(J.lt k V).2⟩,?_⟩,aG⟩⟩
  ·rw[List.length_append,A25]
   exact⟨J.1,J.2.imp (λh=>h) (λ⟨g,aB,aC,q1,q2,q3⟩=>⟨g,aB,aC,q1,Nat.zero_le _,q3⟩)⟩
  ·have U:=(A8.refl B0 w).grown h3 (λj hj=>by cases hj)
   exact⟨U.os,U.tape,U.output,U.size,U.block,λk V=>.inr (J.lt k V).1⟩
theorem A1W{w:World}{ops:Array Oper}{rest:List Oper}{o:Oper}{a:Act}{Q:Exit->Act->World->Prop}(V:o.guard=none)(s x:Operand)
 (ho:o.op= .call { callee:=.builtin .append,args:= #[s,x],argTypes:= #[66,66] })
 {A:Option Addr} {p:Nat} {l m:List En} {J:Value} (hs:a.eval s= .slice A p p) (hx:a.eval x=J) (h:M8 w (.slice A p p) l) (hp:p=l.length) (hr:M8 w J m) (Y:0<m.length) (Z:l.length+m.length<=1000000)
 (X:∀I w',EnO w (l++m) I w'->wpList Tryz.prog ops Q rest (a.put o.dst I) w'):wpList Tryz.prog ops Q (o::rest) a w:=by
 refine wpList_plain V λK hK=>?_
 obtain⟨I,w',aA,U⟩:=A3J (ty:=o.type) h hp hr Y Z
 unfold Oper.wp execOp
 simp only[ho,resolve,invoke,builtin,Sem.run_bind,Sem.run_pure,Result.andThen_ok,List.map_toArray,List.map_cons,List.map_nil,hs,hx,aA]
 exact hK _ _ (X I w' U)
theorem B8y(w:World)(e:En)(I:e.s.size<=maxLen):M8 (w.alloc (.cells (ea e) 74)) (.slice (some ⟨w.heap.size,0,none⟩) 1 1) [e]:=
 ⟨by have:=B6m w e;rwa[<-A57]at this,λx J=>by rw[List.mem_singleton.1 J];exact I⟩
theorem B6v(v:Value)(l:List En)(e:En)(w:World)(h:M8 w v l)(hr:Ris l)(hl:l.length<=1000)(hs:e.s.size<=maxLen):Calls Tryz.prog 145 #[v,.agg (ea e)] w λx w'=>∃v',x= .returned v'/\EnO w (R3 l e) v' w':=by
 obtain⟨y,hy⟩:∃y,y=w.heap.size:=⟨_,rfl⟩
 obtain⟨V,X⟩:∃V,V=w.alloc (.cells (ea e) 74):=⟨_,rfl⟩
 have HY:=C3t (show C0 V y 74 (ea e)by rw[X,hy];exact C0.new _ _ _)
 have aB:A8 B0 w B0 V:=by rw[X];exact(A8.refl _ _).alloc _
 have aZ:=C3t aB
 have aH:=C3t (B1n v l e.s V (h.step aB) hr hl)
 have aI:=C3t hl
 have aY:=C3t hr
 have HV:=C3t X
 have bA:=C3t hy
 have HS:=C3t hs
 clear X hy aB h hr hl hs
 obtain⟨Y,Z,s2,s3⟩:=HY.out.e4.all
 obtain⟨s,i,g,k⟩:=e
 simp only at Y Z s2 s3 aH
 go_enter Tryz.func145,Tryz.ntmps145
 go_upto_region 1 with(fail)
 rw[<-HV.out,<-bA.out]
 go_upto_region 2 with(first
  |(go_at_call 180;refine aH.out.mono ?_;rintro x w2 ⟨⟨p,F,A1,A2,c2,hf,rfl,U,I,a2⟩⟩;have J:=C3t hf;have aU:=C3t U;have aS:=C3t I;have aF:=C3t a2;clear hf U I a2)
  |fail)
 have aJ:=HY.out.keep (aF.out.block y HY.out.lt (λh=>h))
 obtain⟨Y,Z,s2,s3⟩:=aJ.e4.all
 simp only at Y Z s2 s3
 clear aJ
 have aA:=(A8.refl B0 w2).alloc (.cells (ea ⟨s,i,g,k⟩) 74)
 have U:=aU.out.step aA
 have aO:=B8y w2 ⟨s,i,g,k⟩ HS.out
 have aE:p=(l.take p).length:=by rw[List.length_take,Nat.min_eq_left J.out.le]
 have aN:(l.take p).length+1<=1000000:=by rw[<-aE];have:=J.out.le;have:=aI.out;omega
 have aG:=C3t aA
 have aX:=C3t aE
 have aV:=C3t aN
 clear aA aE aN
 go_wp2_with (first
  |(at_builtin;refine A1W rfl (.tmp 14) (.tmp 16) rfl rfl rfl U aX.out aO (Nat.one_pos) aV.out ?c1)
  |fail)
 case c1=>
  intro v3 w3 aC
  have aT:=C3t ((aC.since aG.out).since aF.out)
  have I:=(aS.out.step aG.out).step aC.adv
  have aD:=aT.out.more (m:=bh l p F) I.sz
  have aP:=aD.1
  have aR:=I.rd
  have aM:(l.take p++[(⟨s,i,g,k⟩:En)]).length+(bh l p F).length<=1000000:=by
   unfold bh
   simp only[List.length_append,List.length_take,List.length_drop,List.length_singleton]
   have:=aI.out
   have:=J.out.le
   split<;>omega
  have aW:=C3t aD.2
  clear U aO aC aD I Y Z s2 s3
  go_wp2_with (first
   |(at_builtin;refine U7 rfl (.tmp 17) (.tmp 18) rfl rfl rfl aP aR (A7Q _) aM ?c2)
   |fail)
  case c2=>
   intro v4 w4 aQ aL aK
   have hp:=aW.out w3 v4 w4 (A8.refl _ _) (by rw[show(l.take p++[(⟨s,i,g,k⟩:En)]).length=min p l.length+1 by simp];exact aQ) aL aK
   have e:l.take p++[(⟨s,i,g,k⟩:En)]++bh l p F=R3 l ⟨s,i,g,k⟩:=by
    rw[J.out.lo_eq,show bh l p F=hi s l from J.out.hi_eq aY.out]
    unfold R3;simp
   rw[e]at hp
   have HP:=C3t (hp.since aZ.out)
   clear hp aQ aL aK aP aR aM e
   go_wp2_with fail
   go_ret
   exact⟨_,rfl,HP.out⟩
end
section
open Go.ChangeShapes Go.WideShapes Go.ChangeAt Go.RowKit
end
section
open Go.RowKit
structure Rdv (w:World) (p M:Nat) (H:Nat->List Nat):Prop where
 home:∀F' w',A8 B0 w F' w'->∀i:Nat,i<M->Calls Tryz.prog 94 #[.pointer (some ⟨p,0,none⟩),.int .i64 (i:Int)] w' (RdR w' (H i))
 homes:∀F' w',A8 B0 w F' w'->∃l,w'.cell? ⟨p,0,none⟩=some (.pointer (some ⟨l,0,none⟩))/\Calls Tryz.prog 65 #[.pointer (some ⟨l,0,none⟩)] w' λe w''=>e= .returned (.int .i64 (M:Int))/\∃k,w''=w'.drewN k
theorem Rdv.step{w w':World}{p M:Nat}{H:Nat->List Nat}{F':Nat->Prop}(h:Rdv w p M H)(I:A8 B0 w F' w'):Rdv w' p M H:=
 ⟨λ_ _ k=>h.home _ _ (I.nul.trans k),λ_ _ k=>h.homes _ _ (I.nul.trans k)⟩
theorem Vu.rdv{w:World}{F:Nat->Prop}{d l b n N:Nat}{s:DS}{g:LS}{p m:Nat}{A:Nat->Option (List Nat)}(h:Vu w F d l b n N s g p m A):Rdv w p (N-2-n) (vwH A (D3 s n g)):=
 ⟨λ_ _ k i hi=>B9W F d l b n N s g p m A i _ (h.step k) hi,λ_ _ k=>⟨l,(h.step k).c0,A1J (h.step k).rs.lg (h.step k).rs.dk h.hn.2.2.2 (by have:=h.hn;omega)⟩⟩
structure Sd (H:Nat->List Nat) (M:Nat):Prop where
 hM:46<=M/\M<=1024
 row:∀i,i<M->(H i).length=128/\∀x∈H i,x<256
 map:A0s (H 1) (M:Int)
 ino:∀i,1<=i->i<=40->∃x,A0t (H (1+i))=some x/\∀j,j<8->x.a j=0\/(42<=x.a j/\x.a j<M)
def C9(H:Nat->List Nat)(i:Nat):L6:=dI (H (1+i))
def C8(H:Nat->List Nat)(M:Nat):List Bool:=A1m (H 1) M
theorem Sd.dec{H:Nat->List Nat}{M i:Nat}(h:Sd H M)(J:1<=i)(U:i<=40):A0t (H (1+i))=some (C9 H i)/\eI (H (1+i))=0/\∀j,j<8->(C9 H i).a j=0\/(42<=(C9 H i).a j/\(C9 H i).a j<M):=by
 obtain⟨x,I,V⟩:=h.ino i J U
 have e:C9 H i=x:=by unfold C9 dI;rw[I];rfl
 rw[e]
 exact⟨I,by unfold eI;rw[I];rfl,V⟩
theorem RdR.in_{w':World}{X:List Nat}{z:Nat}(V:z<w'.heap.size)(I:Rd w' 1 (.slice (some ⟨z,0,none⟩) 128 128) 128 (X.map u8))(h3:X.length=128)(J:∀x∈X,x<256):In w' (.slice (some ⟨z,0,none⟩) 128 128) X:=
 ⟨by rw[h3];exact I,λb U _=>by have:z=b:=by simpa[Value.ownBlock]using U
                               omega,J⟩
theorem B6w(v:Value)(l:List Nat)(M:Nat)(w:World)(h:In w v l)(V:A0s l (M:Int)):Calls Tryz.prog 24 #[v,.int .i64 (M:Int)] w λe w'=>∃d,e= .returned (.tuple #[.pointer (some ⟨d,0,none⟩),.int .i64 0])/\Am w' d (A1m l M)/\A8 B0 w (M0 d) w':=
 (A9q v l (M:Int) w h).mono λe w' k=>by
  rcases k with⟨_,d,rfl,I,J⟩|⟨U,_⟩
  ·exact⟨d,rfl,by simpa using I,J⟩
  ·exact absurd V U
def fileE(H:Nat->List Nat)(i g:Int):Int:=if i<1\/40<i then 14 else if(C9 H i.toNat).k=0\/(C9 H i.toNat).g≠g then 14 else 0
def fileX(H:Nat->List Nat)(i g:Int):L6:=if fileE H i g=0 then C9 H i.toNat else J3
def U2(H:Nat->List Nat)(i g k:Int):Int:=if fileE H i g=0 then(if(fileX H i g).k=k then 0 else 12)else 14
def A99(H:Nat->List Nat)(i g k:Int):L6:=if U2 H i g k=0 then fileX H i g else J3
theorem B6x(H:Nat->List Nat)(i g:Int):fileE H i g=0\/fileE H i g=14:=by unfold fileE;split<;>(try split)<;>simp
theorem A09{H:Nat->List Nat}{i g:Int}(h:fileE H i g=0):1<=i/\i<=40/\(C9 H i.toNat).k≠0/\(C9 H i.toNat).g=g/\fileX H i g=C9 H i.toNat:=by
 have J:=h
 unfold fileE at h
 split at h
 ·cases h
 ·split at h
  ·cases h
  ·rename_i U I
   refine⟨by omega,by omega,λe=>I (.inl e),?_,by unfold fileX;rw[if_pos J]⟩
   exact Classical.byContradiction λe=>I (.inr e)
theorem A1u{H:Nat->List Nat}{i g:Int}(h:fileE H i g≠0):fileX H i g=J3/\fileE H i g=14:=by
 refine⟨by unfold fileX;rw[if_neg h],?_⟩
 rcases B6x H i g with e|e
 ·exact absurd e h
 ·exact e
theorem A4G{H:Nat->List Nat}{i g k:Int}(h:U2 H i g k=0):fileE H i g=0/\(fileX H i g).k=k/\A99 H i g k=fileX H i g:=by
 have I:=h
 unfold U2 at h
 split at h
 ·rename_i J
  split at h
  ·rename_i U
   exact⟨J,U,by unfold A99;rw[if_pos I]⟩
  ·cases h
 ·cases h
def A7Z(w:World)(x:L6)(I:Int)(e:Ending)(w':World):Prop:=e= .returned (.tuple #[.agg (ic x),.int .i64 I])/\A8 B0 w B0 w'
section
variable {p M:Nat} {H:Nat->List Nat} {w:World}
theorem B28(h:Rdv w p M H)(Y:Sd H M):Calls Tryz.prog 99 #[.pointer (some ⟨p,0,none⟩)] w λe w'=>∃d,e= .returned (.tuple #[.pointer (some ⟨d,0,none⟩),.int .i64 0])/\Am w' d (C8 H M)/\A8 B0 w (M0 d) w':=by
 have HH:=C3t (h.home _ _ (A8.refl B0 w) 1 (by have:=Y.hM;omega))
 have HV:=C3t h
 have I:=C3t Y
 obtain⟨X,U⟩:∃X,X=H 1:=⟨_,rfl⟩
 rw[<-U]at HH
 have J:=C3t U
 clear U h Y
 go_enter Tryz.func99,Tryz.ntmps99
 go_wp2_with (first
  |(go_at_call 94;refine HH.out.mono ?_;rintro e w1 ⟨z,rfl,aC,aA,hr,hl,V⟩;have HI:=C3t (RdR.in_ aA hr hl (by rw[J.out];exact(I.out.row 1 (by have:=I.out.hM;omega)).2));have HA:=C3t V;obtain⟨l1,c0,hh⟩:=HV.out.homes _ _ V;have aB:=C3t hh;clear aC aA hr hl V hh)
  |(go_at_call 65;refine aB.out.mono ?_;rintro e w2 ⟨rfl,k2,rfl⟩)
  |(go_at_call 24;refine(B6w _ X M _ ((HI.out.far ((A8.refl B0 w1).drewN k2).toBelow)) (by rw[J.out];exact I.out.map)).mono ?_;rintro e w3 ⟨d,rfl,h1,h2⟩;have Z:=C3t (And.intro h1 ((HA.out.drewN k2).trans h2));clear h1 h2)
  |fail)
 go_ret2
 exact⟨d,rfl,by unfold C8;rw[<-J.out];exact Z.out.1,Z.out.2⟩
theorem B29(h:Rdv w p M H)(Y:Sd H M)(i:Nat)(h1:1<=i)(h2:i<=40):Calls Tryz.prog 43 #[.pointer (some ⟨p,0,none⟩),.int .i64 (i:Int)] w (A7Z w (C9 H i) 0):=by
 have aA:=C3t (λV (a:A8 B0 w B0 V)=>h.home _ V a (1+i) (by have:=Y.hM;omega))
 obtain⟨j,hj⟩:∃j,j=1+i:=⟨_,rfl⟩
 have hw:IntKind.i64.wrap (1+(i:Int))=(j:Int):=by rw[IntKind.wrap_i64];omega
 obtain⟨X,J⟩:∃X,X=H (1+i):=⟨_,rfl⟩
 rw[<-J,<-hj]at aA
 have HX:=C3t J
 have HB:=C3t (show∀x∈X,x<256 by rw[J];exact(Y.row _ (by have:=Y.hM;omega)).2)
 have HD:=C3t (show dI X=C9 H i/\eI X=0 by rw[J];exact⟨rfl,(Y.dec h1 h2).2.1⟩)
 clear J h Y h1 h2 hj
 go_enter Tryz.func43,Tryz.ntmps43
 go_wp2_with (first
  |(refine B6 rfl rfl C6 ?_;intro z w0 hz U I;have HZ:=C3t hz;have aH:=C3t U;have Z:=C3t I;clear hz U I)
  |(go_at_call 94;refine(aA.out _ Z.out).mono ?_;rintro e w1 ⟨y,rfl,aI,aJ,hr,hl,I⟩;have HR:=C3t hr;have HL:=C3t hl;have aB:=C3t (Z.out.trans I);have aE:=C3t (aH.out.over I);clear aI aJ hr hl I)
  |(go_at_call 25;refine(A54 _ X w1 (by rw[HL.out];exact HR.out) HB.out).mono ?_;rintro e w2 ⟨rfl,I⟩;rw[HD.out.1,HD.out.2];have aC:=C3t (aB.out.trans I);have aF:=C3t (aE.out.over I);clear I)
  |(refine B5 rfl _ _ rfl z aF.out rfl rfl B7 (C2 _) (C2 _) (D7 _) ?_;intro w3 U I;have aG:=C3t U;have aD:=C3t (aC.out.fresh HZ.out I);clear U I)
  |fail)
 exact bodyPost_ret (Q2 rfl _ _ rfl rfl aG.out Tryz.underlying62 rfl (by rw[B7];rfl)) rfl ⟨rfl,aD.out⟩
end
end
section
open Go.RowKit
section
variable {p M:Nat} {H:Nat->List Nat} {w:World}
theorem B1o(h:Rdv w p M H)(hs:Sd H M)(i g:Int):Calls Tryz.prog 75 #[.pointer (some ⟨p,0,none⟩),.agg #[.int .i64 i,.int .i64 g]] w (A7Z w (fileX H i g) (fileE H i g)):=by
 have HV:=C3t h
 have HS:=C3t hs
 clear h hs
 by_cases hr:i<1\/40<i
 ·have X:fileE H i g=14:=by unfold fileE;rw[if_pos hr]
  have hx:fileX H i g=J3:=(A1u (by rw[X];decide)).1
  rw[X,hx]
  clear X hx
  rcases hr with hr|hr
  all_goals
   go_enter Tryz.func75,Tryz.ntmps75
   go_wp2_with (first
    |(refine C4 rfl _ rfl rfl ?_;intro z0 w0 U J I;have aD:=C3t J;have Y:=C3t I;clear U J I)
    |(refine B6 rfl rfl C6 ?_;intro z w1 U J I;have HZ:=C3t (Nat.le_trans Y.out.size U);have aE:=C3t J;have aA:=C3t (Y.out.trans I);have c0:=(aD.out.over I).cell 0;clear U J I)
    |(refine Q3 rfl rfl ?_)
    |(refine B5 rfl _ _ rfl z aE.out rfl rfl B7 (C2 _) (C2 _) (D7 _) ?_;intro w3 J I;have aV:=C3t J;have aU:=C3t (aA.out.fresh HZ.out I);clear J I)
    |fail)
   exact bodyPost_ret (Q2 rfl _ _ rfl rfl aV.out Tryz.underlying62 rfl (by rw[B7];rfl)) rfl ⟨rfl,aU.out⟩
 ·obtain⟨n,rfl⟩:∃n:Nat,i=(n:Int):=⟨i.toNat,by omega⟩
  have h1:(1:Int)<=(n:Int):=by omega
  have h2:(n:Int)<=40:=by omega
  have aQ:=C3t (λV (a:A8 B0 w B0 V)=>B29 (HV.out.step a) HS.out n (by omega) (by omega))
  obtain⟨x,hx⟩:∃x,x=C9 H n:=⟨_,rfl⟩
  rw[<-hx]at aQ
  have hE:fileE H (n:Int) g=if x.k=0\/x.g≠g then 14 else 0:=by
   unfold fileE
   rw[if_neg (by omega),Int.toNat_natCast,<-hx]
  by_cases hk:x.k=0
  ·have X:fileE H (n:Int) g=14:=by rw[hE,if_pos (.inl hk)]
   rw[X,(A1u (by rw[X];decide)).1]
   clear X hE hr hx
   go_enter Tryz.func75,Tryz.ntmps75
   go_wp2_with (first
    |(refine C4 rfl _ rfl rfl ?_;intro z0 w0 U J I;have aD:=C3t J;have Y:=C3t I;clear U J I)
    |(refine B6 rfl rfl C6 ?_;intro z w1 U J I;have HZ:=C3t (Nat.le_trans Y.out.size U);have aE:=C3t J;have aA:=C3t (Y.out.trans I);have c0:=(aD.out.over I).cell 0;clear U J I)
    |(go_at_call 43;refine(aQ.out _ aA.out).mono ?_;rintro e w2 ⟨rfl,I⟩;have aB:=C3t (aA.out.trans I);have aC:=C3t (aE.out.over I);clear I)
    |(refine B6 rfl rfl C6 ?_;intro Z w5 U J I;have aM:=C3t J;have aG:=C3t (aB.out.trans I);have aL:=C3t (aC.out.over I);have aF:=C3t (show z≠Z fromλe=>by have:=aC.out.lt;omega);have aP:=C3t (Nat.le_trans aB.out.size U);clear U J I)
    |(refine B5 rfl _ _ rfl Z aM.out rfl rfl B7 (C2 _) (C2 _) (D7 _) ?_;intro w6 J I;have aN:=C3t (aL.out.far1 I aF.out);have aH:=C3t (aG.out.fresh aP.out I);have c6:=J.cell 0;clear J I;simp only[ic]at c6;rw[hk]at c6)
    |(refine Q3 rfl rfl ?_)
    |(refine B5 rfl _ _ rfl z aN.out rfl rfl B7 (C2 _) (C2 _) (D7 _) ?_;intro w7 J I;have aO:=C3t J;have aI:=C3t (aH.out.fresh HZ.out I);clear J I)
    |fail)
   exact bodyPost_ret (Q2 rfl _ _ rfl rfl aO.out Tryz.underlying62 rfl (by rw[B7];rfl)) rfl ⟨rfl,aI.out⟩
  ·have aY:(x.k==0)=false:=by rw[beq_eq_false_iff_ne];exact hk
   by_cases hg:x.g=g
   ·have X:fileE H (n:Int) g=0:=by rw[hE,if_neg (λe=>by rcases e with e|e;exact hk e;exact e hg)]
    have hX:fileX H (n:Int) g=x:=by rw[(A09 X).2.2.2.2,Int.toNat_natCast,hx]
    rw[X,hX]
    have aX:(x.g !=g)=false:=by rw[hg,bne_self_eq_false]
    clear X hX hE hr hx hk hg
    go_enter Tryz.func75,Tryz.ntmps75
    go_wp2_with (first
     |(refine C4 rfl _ rfl rfl ?_;intro z0 w0 U J I;have aD:=C3t J;have Y:=C3t I;clear U J I)
     |(refine B6 rfl rfl C6 ?_;intro z w1 U J I;have HZ:=C3t (Nat.le_trans Y.out.size U);have aE:=C3t J;have aA:=C3t (Y.out.trans I);have aJ:=C3t (aD.out.over I);have c0:=aJ.out.cell 0;clear U J I)
     |(go_at_call 43;refine(aQ.out _ aA.out).mono ?_;rintro e w2 ⟨rfl,I⟩;have aB:=C3t (aA.out.trans I);have aC:=C3t (aE.out.over I);have aK:=C3t (aJ.out.over I);clear I)
     |(refine B6 rfl rfl C6 ?_;intro Z w5 U J I;have aM:=C3t J;have aG:=C3t (aB.out.trans I);have aL:=C3t (aC.out.over I);have aR:=C3t (aK.out.over I);have aF:=C3t (show z≠Z/\z0≠Z from⟨λe=>by have:=aC.out.lt;omega,λe=>by have:=aK.out.lt;omega⟩);have aP:=C3t (Nat.le_trans aB.out.size U);clear U J I)
     |(refine B5 rfl _ _ rfl Z aM.out rfl rfl B7 (C2 _) (C2 _) (D7 _) ?_;intro w6 J I;have aN:=C3t (aL.out.far1 I aF.out.1);have aT:=C3t J;have aH:=C3t (aG.out.fresh aP.out I);have c6:=J.cell 0;have aS:=J.cell 1;have aW:=(aR.out.far1 I aF.out.2).cell 1;clear J I;simp only[ic]at c6 aS)
     |(refine C3 rfl _ rfl Z aT.out rfl Tryz.underlying62 rfl B7 (C2 _) ?_)
     |(refine B5 rfl _ _ rfl z aN.out rfl rfl B7 (C2 _) (C2 _) (D7 _) ?_;intro w7 J I;have aO:=C3t J;have aI:=C3t (aH.out.fresh HZ.out I);clear J I)
     |fail)
    exact bodyPost_ret (Q2 rfl _ _ rfl rfl aO.out Tryz.underlying62 rfl (by rw[B7];rfl)) rfl ⟨rfl,aI.out⟩
   ·have X:fileE H (n:Int) g=14:=by rw[hE,if_pos (.inr hg)]
    rw[X,(A1u (by rw[X];decide)).1]
    have aX:(x.g !=g)=true:=by rw[bne_iff_ne];exact hg
    clear X hE hr hx hk hg
    go_enter Tryz.func75,Tryz.ntmps75
    go_wp2_with (first
     |(refine C4 rfl _ rfl rfl ?_;intro z0 w0 U J I;have aD:=C3t J;have Y:=C3t I;clear U J I)
     |(refine B6 rfl rfl C6 ?_;intro z w1 U J I;have HZ:=C3t (Nat.le_trans Y.out.size U);have aE:=C3t J;have aA:=C3t (Y.out.trans I);have aJ:=C3t (aD.out.over I);have c0:=aJ.out.cell 0;clear U J I)
     |(go_at_call 43;refine(aQ.out _ aA.out).mono ?_;rintro e w2 ⟨rfl,I⟩;have aB:=C3t (aA.out.trans I);have aC:=C3t (aE.out.over I);have aK:=C3t (aJ.out.over I);clear I)
     |(refine B6 rfl rfl C6 ?_;intro Z w5 U J I;have aM:=C3t J;have aG:=C3t (aB.out.trans I);have aL:=C3t (aC.out.over I);have aR:=C3t (aK.out.over I);have aF:=C3t (show z≠Z/\z0≠Z from⟨λe=>by have:=aC.out.lt;omega,λe=>by have:=aK.out.lt;omega⟩);have aP:=C3t (Nat.le_trans aB.out.size U);clear U J I)
     |(refine B5 rfl _ _ rfl Z aM.out rfl rfl B7 (C2 _) (C2 _) (D7 _) ?_;intro w6 J I;have aN:=C3t (aL.out.far1 I aF.out.1);have aT:=C3t J;have aH:=C3t (aG.out.fresh aP.out I);have c6:=J.cell 0;have aS:=J.cell 1;have aW:=(aR.out.far1 I aF.out.2).cell 1;clear J I;simp only[ic]at c6 aS)
     |(refine Q3 rfl rfl ?_)
     |(refine B5 rfl _ _ rfl z aN.out rfl rfl B7 (C2 _) (C2 _) (D7 _) ?_;intro w7 J I;have aO:=C3t J;have aI:=C3t (aH.out.fresh HZ.out I);clear J I)
     |fail)
    exact bodyPost_ret (Q2 rfl _ _ rfl rfl aO.out Tryz.underlying62 rfl (by rw[B7];rfl)) rfl ⟨rfl,aI.out⟩
end
end
section
open Go.RowKit
theorem B1:(Tryz.prog.info? 35).map (·.size)=some 2:=by kernel_rfl
theorem J4:(Tryz.prog.info? 35).map (λi=>(i.zero,i.size,i.bytes))=some (some (.agg #[.int .i64 0,.int .i64 0]),2,16):=by kernel_rfl
section
variable {p M:Nat} {H:Nat->List Nat} {w:World}
theorem A5C(H:Nat->List Nat)(i g k:Int):U2 H i g k=0\/U2 H i g k=12\/U2 H i g k=14:=by unfold U2;split<;>(try split)<;>simp
theorem A5D(h:Rdv w p M H)(hs:Sd H M)(i g k:Int):Calls Tryz.prog 86 #[.pointer (some ⟨p,0,none⟩),.agg #[.int .i64 i,.int .i64 g],.int .i64 k] w (A7Z w (A99 H i g k) (U2 H i g k)):=by
 have HF:=C3t (λV (a:A8 B0 w B0 V)=>B1o (h.step a) hs i g)
 obtain⟨X,hX⟩:∃X,X=fileX H i g:=⟨_,rfl⟩
 obtain⟨e,he⟩:∃e,e=fileE H i g:=⟨_,rfl⟩
 rw[<-hX,<-he]at HF
 have hE:U2 H i g k=if e=0 then(if X.k=k then 0 else 12)else 14:=by unfold U2;rw[<-hX,<-he]
 have hO:A99 H i g k=if e=0/\X.k=k then X else J3:=by
  unfold A99
  rw[hE,<-hX]
  by_cases Z:e=0
  ·by_cases Y:X.k=k
   ·rw[if_pos Z,if_pos Y,if_pos rfl,if_pos ⟨Z,Y⟩]
   ·rw[if_pos Z,if_neg Y,if_neg (by decide),if_neg (λx=>Y x.2)]
  ·rw[if_neg Z,if_neg (by decide),if_neg (λx=>Z x.1)]
 have aQ:e≠0->e=14:=λx=>by rw[he];exact(A1u (by rw[<-he];exact x)).2
 rw[hE,hO]
 clear hE hO hX h hs he
 by_cases Z:e=0
 ·subst Z
  by_cases Y:X.k=k
  ·rw[if_pos rfl,if_pos Y,if_pos ⟨rfl,Y⟩]
   have J:(X.k !=k)=false:=by rw[Y,bne_self_eq_false]
   clear Y aQ
   go_enter Tryz.func86,Tryz.ntmps86
   go_wp2_with (first
    |(refine C4 rfl _ rfl rfl ?_;intro z0 w0 U J I;have aH:=C3t J;have aA:=C3t I;clear U J I)
    |(refine B6 rfl rfl C6 ?_;intro z w1 U J I;have HZ:=C3t (Nat.le_trans aA.out.size U);have aN:=C3t J;have aB:=C3t (aA.out.trans I);have aI:=C3t (aH.out.over I);clear U J I)
    |(refine C3 rfl _ rfl z0 aI.out rfl Tryz.underlying35 rfl B1 rfl ?_)
    |(go_at_call 75;refine(HF.out _ aB.out).mono ?_;rintro e w2 ⟨rfl,I⟩;have aC:=C3t (aB.out.trans I);have aD:=C3t (aN.out.over I);clear I)
    |(refine B6 rfl rfl C6 ?_;intro z5 w5 U J I;have aK:=C3t J;have aE:=C3t (aC.out.trans I);have aJ:=C3t (aD.out.over I);have aO:=C3t (show z≠z5 fromλe=>by have:=aD.out.lt;omega);have aP:=C3t (Nat.le_trans aC.out.size U);clear U J I)
    |(refine B5 rfl _ _ rfl z5 aK.out rfl rfl B7 (C2 _) (C2 _) (D7 _) ?_;intro w6 J I;have aL:=C3t (aJ.out.far1 I aO.out);have aR:=C3t J;have aF:=C3t (aE.out.fresh aP.out I);have c6:=J.cell 0;clear J I;simp only[ic]at c6)
    |(refine C3 rfl _ rfl z5 aR.out rfl Tryz.underlying62 rfl B7 (C2 _) ?_)
    |(refine B5 rfl _ _ rfl z aL.out rfl rfl B7 (C2 _) (C2 _) (D7 _) ?_;intro w7 J I;have aM:=C3t J;have aG:=C3t (aF.out.fresh HZ.out I);clear J I)
    |fail)
   exact bodyPost_ret (Q2 rfl _ _ rfl rfl aM.out Tryz.underlying62 rfl (by rw[B7];rfl)) rfl ⟨rfl,aG.out⟩
  ·rw[if_pos rfl,if_neg Y,if_neg (λx=>Y x.2)]
   have J:(X.k !=k)=true:=by rw[bne_iff_ne];exact Y
   clear Y aQ
   go_enter Tryz.func86,Tryz.ntmps86
   go_wp2_with (first
    |(refine C4 rfl _ rfl rfl ?_;intro z0 w0 U J I;have aH:=C3t J;have aA:=C3t I;clear U J I)
    |(refine B6 rfl rfl C6 ?_;intro z w1 U J I;have HZ:=C3t (Nat.le_trans aA.out.size U);have aN:=C3t J;have aB:=C3t (aA.out.trans I);have aI:=C3t (aH.out.over I);clear U J I)
    |(refine C3 rfl _ rfl z0 aI.out rfl Tryz.underlying35 rfl B1 rfl ?_)
    |(go_at_call 75;refine(HF.out _ aB.out).mono ?_;rintro e w2 ⟨rfl,I⟩;have aC:=C3t (aB.out.trans I);have aD:=C3t (aN.out.over I);clear I)
    |(refine B6 rfl rfl C6 ?_;intro z5 w5 U J I;have aK:=C3t J;have aE:=C3t (aC.out.trans I);have aJ:=C3t (aD.out.over I);have aO:=C3t (show z≠z5 fromλe=>by have:=aD.out.lt;omega);have aP:=C3t (Nat.le_trans aC.out.size U);clear U J I)
    |(refine B5 rfl _ _ rfl z5 aK.out rfl rfl B7 (C2 _) (C2 _) (D7 _) ?_;intro w6 J I;have aL:=C3t (aJ.out.far1 I aO.out);have aR:=C3t J;have aF:=C3t (aE.out.fresh aP.out I);have c6:=J.cell 0;clear J I;simp only[ic]at c6)
    |(refine Q3 rfl rfl ?_)
    |(refine B5 rfl _ _ rfl z aL.out rfl rfl B7 (C2 _) (C2 _) (D7 _) ?_;intro w7 J I;have aM:=C3t J;have aG:=C3t (aF.out.fresh HZ.out I);clear J I)
    |fail)
   exact bodyPost_ret (Q2 rfl _ _ rfl rfl aM.out Tryz.underlying62 rfl (by rw[B7];rfl)) rfl ⟨rfl,aG.out⟩
 ·obtain rfl:=aQ Z
  rw[if_neg Z,if_neg (λx=>Z x.1)]
  clear Z aQ
  go_enter Tryz.func86,Tryz.ntmps86
  go_wp2_with (first
   |(refine C4 rfl _ rfl rfl ?_;intro z0 w0 U J I;have aH:=C3t J;have aA:=C3t I;clear U J I)
   |(refine B6 rfl rfl C6 ?_;intro z w1 U J I;have HZ:=C3t (Nat.le_trans aA.out.size U);have aN:=C3t J;have aB:=C3t (aA.out.trans I);have aI:=C3t (aH.out.over I);clear U J I)
   |(refine C3 rfl _ rfl z0 aI.out rfl Tryz.underlying35 rfl B1 rfl ?_)
   |(go_at_call 75;refine(HF.out _ aB.out).mono ?_;rintro e w2 ⟨rfl,I⟩;have aC:=C3t (aB.out.trans I);have aD:=C3t (aN.out.over I);clear I)
   |(refine B6 rfl rfl C6 ?_;intro z5 w5 U J I;have aK:=C3t J;have aE:=C3t (aC.out.trans I);have aJ:=C3t (aD.out.over I);have aO:=C3t (show z≠z5 fromλe=>by have:=aD.out.lt;omega);have aP:=C3t (Nat.le_trans aC.out.size U);clear U J I)
   |(refine B5 rfl _ _ rfl z5 aK.out rfl rfl B7 (C2 _) (C2 _) (D7 _) ?_;intro w6 J I;have aL:=C3t (aJ.out.far1 I aO.out);have aR:=C3t J;have aF:=C3t (aE.out.fresh aP.out I);have c6:=J.cell 0;clear J I;simp only[ic]at c6)
   |(refine Q3 rfl rfl ?_)
   |(refine B5 rfl _ _ rfl z aL.out rfl rfl B7 (C2 _) (C2 _) (D7 _) ?_;intro w7 J I;have aM:=C3t J;have aG:=C3t (aF.out.fresh HZ.out I);clear J I)
   |fail)
  exact bodyPost_ret (Q2 rfl _ _ rfl rfl aM.out Tryz.underlying62 rfl (by rw[B7];rfl)) rfl ⟨rfl,aG.out⟩
end
theorem A4k(i:Int)(w:World):Calls Tryz.prog 85 #[.int .i64 i] w λe w'=>e= .returned (.bool (decide (0<=i)&&decide (i<8)))/\w=w':=by
 by_cases I:0<=i
 ·by_cases J:i<8
  ·rw[decide_eq_true I,decide_eq_true J]
   go_enter Tryz.func85,Tryz.ntmps85
   go_wp2
   go_ret
   exact⟨rfl,rfl⟩
  ·rw[decide_eq_true I,decide_eq_false J]
   go_enter Tryz.func85,Tryz.ntmps85
   go_wp2
   go_ret
   exact⟨rfl,rfl⟩
 ·rw[decide_eq_false I]
  go_enter Tryz.func85,Tryz.ntmps85
  go_wp2
  go_ret
  exact⟨rfl,rfl⟩
theorem C0n(p l:Nat)(w:World)(c:w.cell? ⟨p,0,none⟩=some (.pointer (some ⟨l,0,none⟩))):Calls Tryz.prog 73 #[.pointer (some ⟨p,0,none⟩)] w λe w'=>e= .returned (.bool true)/\w=w':=by
 go_enter Tryz.func73,Tryz.ntmps73
 go_wp2
 go_ret
 exact⟨rfl,rfl⟩
theorem B6y(w:World):Calls Tryz.prog 73 #[.pointer none] w λe w'=>e= .returned (.bool false)/\w=w':=by
 go_enter Tryz.func73,Tryz.ntmps73
 go_wp2
 go_ret
 exact⟨rfl,rfl⟩
theorem B4k(p:Nat)(w:World)(c:w.cell? ⟨p,0,none⟩=some (.pointer none)):Calls Tryz.prog 73 #[.pointer (some ⟨p,0,none⟩)] w λe w'=>e= .returned (.bool false)/\w=w':=by
 go_enter Tryz.func73,Tryz.ntmps73
 go_wp2
 go_ret
 exact⟨rfl,rfl⟩
end
section
open Go.RowKit
structure BsL (W:World) (rs:List (List Nat)) (v:Value) (w:World):Prop where
 ex:∃(F:Nat->Prop) (cs:List Value),Sl w F 54 1 v rs.length cs/\cs.length=rs.length/\(∀(i:Nat) (c:Value) (r:List Nat),cs[i]? =some c->rs[i]? =some r->∃z,c= .slice (some ⟨z,0,none⟩) 128 128/\Rd w 1 c 128 (r.map u8)/\r.length=128/\¬F z/\z<w.heap.size)/\A8 B0 W F w
section
variable {W w w':World} {rs:List (List Nat)} {v:Value}
theorem BsL.nil(W:World):BsL W [] (.slice none 0 0) W:=⟨B0,[],Sl.nil _ _ _,rfl,λi c r h=>by simp at h,A8.refl _ _⟩
theorem BsL.adv(h:BsL W rs v w):A8 B0 W B0 w:=by
 obtain⟨F,cs,_,_,_,a⟩:=h.ex
 exact a.nul
theorem BsL.form(h:BsL W rs v w):∃A c,v= .slice A rs.length c:=by
 obtain⟨F,cs,s,_⟩:=h.ex
 obtain⟨A,c,e,_⟩:=s.form0
 exact⟨A,c,e⟩
theorem BsL.rd(h:BsL W rs v w):RwD w v rs:=by
 obtain⟨F,cs,s,l,I,a⟩:=h.ex
 refine⟨cs,s.rd,l,λi c r U V=>?_⟩
 obtain⟨z,e,X,J,_⟩:=I i c r U V
 rw[J]
 exact X
theorem BsL.more{r:List Nat}{z:Nat}{V:World}(h:BsL W rs v w)(Z:A8 B0 w B0 V)(hz:w.heap.size<=z)(aL:z<V.heap.size)(hr:Rd V 1 (.slice (some ⟨z,0,none⟩) 128 128) 128 (r.map u8))(I:r.length=128):
 ∃cs,V.ownsRow 0 54 1 v rs.length cs/\∀(o:Obj) Y w3,w3.ownsRow 0 54 1 Y (rs.length+1) (cs++[.slice (some ⟨z,0,none⟩) 128 128])->(V.alloc o).grownBy w3 v.ownBlock->(Y.ownBlock=v.ownBlock\/Y.ownBlock=some (V.alloc o).heap.size)->BsL W (rs++[r]) Y w3:=by
 obtain⟨F,cs,s,l,aF,a⟩:=h.ex
 have sV:=s.far Z (λ_ h _=>h)
 refine⟨cs,sV.own,λo Y w3 aJ hg aA=>?_⟩
 have J:A8 B0 V B0 (V.alloc o):=(A8.refl _ _).alloc o
 have s2:=sV.far J (λ_ h _=>h)
 have aB:V.heap.size<=(V.alloc o).heap.size:=J.size
 obtain⟨g1,U⟩:=A31 s2 aJ hg aA (Nat.le_refl _)
 have aC:∀y,y<(V.alloc o).heap.size->¬F y->¬(F y\/Y.ownBlock=some y):=λy hy hn aI=>by
  rcases aI with X|X
  ·exact hn X
  ·rcases aA with e|e
   ·exact hn (s.inF y (by rw[<-e];exact X))
   ·rw[e]at X;injection X with X;omega
 refine⟨_,_,by rw[List.length_append,List.length_singleton];exact g1,by simp[l],λi c q hc hq=>?_,(a.over (Z.trans J)).trans U⟩
 by_cases hi:i<rs.length
 ·rw[List.getElem?_append_left (by omega)]at hc
  rw[List.getElem?_append_left hi]at hq
  obtain⟨y,e,aK,aG,hn,aH⟩:=aF i c q hc hq
  have hy:y<(V.alloc o).heap.size:=Nat.lt_of_lt_of_le aH (Nat.le_trans Z.size aB)
  refine⟨y,e,?_,aG,aC y hy hn,Nat.lt_of_lt_of_le hy U.size⟩
  have r1:=aK.far (λk _ _ I=>(Z.trans J).block k I (λx=>x)) (Z.trans J).size
  refine r1.far (λk hk _ I=>U.block k I (λhF=>?_)) U.size
  rw[e]at hk
  have:y=k:=by simpa[Value.ownBlock]using hk
  subst this
  exact hn hF
 ·have e1:i=rs.length:=by
   have:=(List.getElem?_eq_some_iff.1 hq).1
   rw[List.length_append,List.length_singleton]at this
   omega
  subst e1
  rw[List.getElem?_append_right (by omega),l,Nat.sub_self]at hc
  rw[List.getElem?_append_right (by omega),Nat.sub_self]at hq
  obtain rfl: .slice (some ⟨z,0,none⟩) 128 128=c:=by simpa using hc
  obtain rfl:r=q:=by simpa using hq
  have aD:¬F z:=λhF=>by have:=s.bd z hF;omega
  have aE:z<(V.alloc o).heap.size:=Nat.lt_of_lt_of_le aL aB
  refine⟨z,rfl,?_,I,aC z aE aD,Nat.lt_of_lt_of_le aE U.size⟩
  have r1:=hr.far (λk _ _ I=>J.block k I (λx=>x)) J.size
  refine r1.far (λk hk _ I=>U.block k I (λhF=>?_)) U.size
  have:z=k:=by simpa[Value.ownBlock]using hk
  subst this
  exact aD hF
end
def A5E(H:Nat->List Nat)(x:L6):List (List Nat):=(nzI x 8).map (λa=>H a.toNat)
noncomputable def T4(H:Nat->List Nat)(i g:Int):List En:=if U2 H i g 1=0 then A4z (A5E H (fileX H i g))else []
noncomputable def R6(H:Nat->List Nat)(i g:Int):Int:=if U2 H i g 1=0 then A9w (A5E H (fileX H i g))else U2 H i g 1
theorem A8a{x:L6}{a:Int}:∀{j:Nat},a∈nzI x j->∃i,i<j/\x.a i=a/\a≠0
 |0,h=>by simp[nzI]at h
 |j+1,h=>by
  unfold nzI at h
  split at h
  ·rename_i J
   rcases List.mem_append.1 h with I|I
   ·obtain⟨i,U,h3⟩:=A8a I
    exact⟨i,by omega,h3⟩
   ·rw[List.mem_singleton]at I
    exact⟨j,by omega,I.symm,by rw[I];exact J⟩
  ·obtain⟨i,U,h3⟩:=A8a h
   exact⟨i,by omega,h3⟩
theorem Sd.places{H:Nat->List Nat}{M:Nat}(h:Sd H M){i g:Int}(X:fileE H i g=0):∀a∈nzI (fileX H i g) 8,42<=a/\a<M:=λa J=>by
 obtain⟨Z,h2,_,_,V⟩:=A09 X
 rw[V]at J
 obtain⟨j,Y,e,U⟩:=A8a J
 have:=(h.dec (i:=i.toNat) (by omega) (by omega)).2.2 j Y
 rw[e]at this
 rcases this with I|I
 ·exact absurd I U
 ·exact I
end
end Go.Proofs.YtbefmjiclpobjaaGreat
