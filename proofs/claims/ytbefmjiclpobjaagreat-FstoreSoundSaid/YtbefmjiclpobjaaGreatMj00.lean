import Derived.Below
import Derived.OwnWalk
import Derived.Laws.OwnMore
import Derived.Laws.Rows
import Derived.Deep.Draws
import Derived.Maps.AppendAt
import Derived.Deep.AppendLies
import Derived.Deep.RegionHeld
import Derived.Lib.Hide
import Derived.Test.YtbefmjiclpobjaaGreatChecked
import Derived.WalkKit
import Derived.WalkLawsBesides
import Derived.WalkSpells
import Derived.BigRegion
import Derived.Laws.BitsAllLaws
import Derived.ProofKit
import Derived.OpenShut
import Derived.Deep.QuietTactic
import Derived.BigQuiet
import Derived.Laws.AppendOwnNone
import Derived.Laws.BytesArg
import Derived.Deep.MidRow
import Derived.Deep.RegionHeld3
import Derived.Deep.RegionWith
namespace Go.Proofs.YtbefmjiclpobjaaGreat
theorem C6x {p:Prop} (h:p):Go.RowKit.Hid p:=h
set_option maxHeartbeats 800000
set_option maxRecDepth 3000
section
def B7v(p:Nat×Nat)(x:Nat):Nat×Nat:=((p.1+x)%65535,(p.2+(p.1+x)%65535)%65535)
def A3w(p:Nat×Nat)(l:List Nat):Nat×Nat:=l.foldl B7v p
def A7S(p:Nat×Nat):Nat:=p.2 * 65536+p.1
def fof(s:Nat):Nat×Nat:=(s%65536%65535,s/65536%65535)
def FOk(p:Nat×Nat):Prop:=p.1<65535/\p.2<65535
theorem B7w(p:Nat×Nat)(x:Nat):FOk (B7v p x):=⟨Nat.mod_lt _ (by decide),Nat.mod_lt _ (by decide)⟩
theorem C0d(l:List Nat):∀p,FOk p->FOk (A3w p l):=by
 induction l with
 |nil=>exactλp h=>h
 |cons x l ih=>exactλp _=>ih _ (B7w p x)
theorem C0e(p:Nat×Nat)(h:FOk p):A7S p<4294967296:=by
 obtain⟨I,J⟩:=h
 unfold A7S;omega
theorem B59(p:Nat×Nat)(a:List Nat)(x:Nat):A3w p (a++[x])=B7v (A3w p a) x:=by simp[A3w]
end
section
def be:Nat->Nat->List Nat
 |0,_=>[]
 |q+1,V=>be q (V/256)++[V%256]
theorem C7:∀q V,(be q V).length=q
 |0,_=>rfl
 |q+1,V=>by simp[be,C7 q]
theorem A3T:∀q V x,x∈be q V->x<256
 |0,_,_,h=>by simp[be]at h
 |q+1,V,x,h=>by
  simp only[be,List.mem_append,List.mem_singleton]at h
  rcases h with h|h
  ·exact A3T q _ x h
  ·subst h;exact Nat.mod_lt _ (by decide)
theorem C0f(q V:Nat):(be (q+1) V)[q]? =some (V%256):=by
 simp only[be]
 rw[List.getElem?_append_right (by rw[C7];exact Nat.le_refl _),C7]
 simp
theorem B7x(q V:Nat)(I:0<q):(be q V)[q-1]? =some (V%256):=by
 obtain⟨p,rfl⟩:∃p,q=p+1:=⟨q-1,by omega⟩
 exact C0f p V
theorem B08(q V V':Nat)(I:0<q)(h:V'/256=V/256):(be q V).set (q-1) (V'%256)=be q V':=by
 obtain⟨p,rfl⟩:∃p,q=p+1:=⟨q-1,by omega⟩
 simp only[be,h,Nat.add_sub_cancel]
 rw[List.set_append_right _ _ (by rw[C7];exact Nat.le_refl _),C7]
 simp
theorem B4d(q V:Nat):be (q+1) (V * 256)=be q V++[0]:=by
 simp only[be]
 rw[Nat.mul_div_cancel _ (by decide),Nat.mul_mod_left]
def qn(m:Nat):Nat:=(m+7)/8
def pad(m:Nat):Nat:=(8-m%8)%8
theorem A6p(m:Nat):8 * qn m=m+pad m:=by unfold qn pad;omega
theorem B2L(m:Nat):pad m<8:=by unfold pad;omega
def V1(N m:Nat):List Nat:=be (qn m) (N * 2^pad m)
theorem C2u(V c s r:Nat)(Y:r<=8)(X:c * 2^s<2^r)(W:∃N,V=N * 2^r):(V%256) ||| (c * 2^s)=(V+c * 2^s)%256:=by
 obtain⟨N,rfl⟩:=W
 have J:(256:Nat)=2^r * 2^(8-r):=by rw[<-Nat.pow_add,show r+(8-r)=8 from by omega]
 have I:N * 2^r%256=2^r * (N%2^(8-r)):=by
  rw[J,Nat.mul_comm N,Nat.mul_mod_mul_left]
 rw[I,<-Nat.two_pow_add_eq_or_of_lt X]
 have U:N%2^(8-r)<2^(8-r):=Nat.mod_lt _ (Nat.two_pow_pos _)
 have h3:2^r * (N%2^(8-r))+c * 2^s<256:=by
  rw[J]
  calc 2^r * (N%2^(8-r))+c * 2^s<2^r * (N%2^(8-r))+2^r:=by omega
   _=2^r * (N%2^(8-r)+1):=by rw[Nat.mul_add,Nat.mul_one]
   _<=2^r * 2^(8-r):=Nat.mul_le_mul_left _ U
 rw[Nat.add_mod,I]
 rw[Nat.mod_eq_of_lt (a:=c * 2^s) (by
  have:2^r * 1<=2^r * 2^(8-r):=Nat.mul_le_mul_left _ (Nat.two_pow_pos _)
  omega),Nat.mod_eq_of_lt h3]
theorem B5A(q N r n y k:Nat)(aD:0<r)(J:r<=8)(X:0<q)(Z:k=min n r)(Y:y<2^n):
 (N * 2^r%256) ||| (y/2^(n-k)%256 * 2^(r-k)%256)=((N * 2^k+y/2^(n-k)) * 2^(r-k))%256/\
 (be q (N * 2^r)).set (q-1) (((N * 2^k+y/2^(n-k)) * 2^(r-k))%256)=be q ((N * 2^k+y/2^(n-k)) * 2^(r-k)):=by
 have aC:k<=r:=by omega
 have aB:k<=n:=by omega
 have W:y/2^(n-k)<2^k:=by
  rw[Nat.div_lt_iff_lt_mul (Nat.two_pow_pos _),<-Nat.pow_add,show k+(n-k)=n from by omega]
  exact Y
 have aA:2^k<=256:=by
  have:=Nat.pow_le_pow_right (n:=2) (by decide) (show k<=8 by omega)
  simpa using this
 have I:y/2^(n-k) * 2^(r-k)<2^r:=by
  have:y/2^(n-k) * 2^(r-k)<2^k * 2^(r-k):=Nat.mul_lt_mul_of_pos_right W (Nat.two_pow_pos _)
  rwa[<-Nat.pow_add,show k+(r-k)=r from by omega]at this
 have aE:2^r<=256:=by
  have:=Nat.pow_le_pow_right (n:=2) (by decide) J
  simpa using this
 have U:(N * 2^k+y/2^(n-k)) * 2^(r-k)=N * 2^r+y/2^(n-k) * 2^(r-k):=by
  rw[Nat.add_mul,Nat.mul_assoc,<-Nat.pow_add,show k+(r-k)=r from by omega]
 constructor
 ·rw[Nat.mod_eq_of_lt (a:=y/2^(n-k)) (by omega),Nat.mod_eq_of_lt (a:=y/2^(n-k) * 2^(r-k)) (by omega),U]
  exact C2u _ _ _ r J I ⟨N,rfl⟩
 ·apply B08 _ _ _ X
  rw[U]
  have V:(256:Nat)=2^r * 2^(8-r):=by rw[<-Nat.pow_add,show r+(8-r)=8 from by omega]
  rw[V,<-Nat.div_div_eq_div_mul,<-Nat.div_div_eq_div_mul,Nat.mul_div_cancel _ (Nat.two_pow_pos _),Nat.add_comm,Nat.mul_comm N,Nat.add_mul_div_left _ _ (Nat.two_pow_pos _),Nat.div_eq_of_lt I,Nat.zero_add]
theorem B7y(N n y k:Nat)(I:k<=n):(N * 2^k+y/2^(n-k)) * 2^(n-k)+y%2^(n-k)=N * 2^n+y:=by
 rw[Nat.add_mul,Nat.mul_assoc,<-Nat.pow_add,show k+(n-k)=n from by omega,Nat.add_assoc]
 congr 1
 exact Nat.div_add_mod' _ _
theorem B7z(N m n x:Nat)(I:N<2^m)(J:x<2^n):N * 2^n+x<2^(m+n):=by
 rw[Nat.pow_add]
 calc N * 2^n+x<N * 2^n+2^n:=by omega
  _=(N+1) * 2^n:=by rw[Nat.add_mul,Nat.one_mul]
  _<=2^m * 2^n:=Nat.mul_le_mul_right _ I
theorem C2v(y s:Nat):(((y%256 * 2^s%256:Nat)):Int)=(y:Int)%256 * 2^s%256:=by
 rw[Int.natCast_emod,Int.natCast_mul,Int.natCast_emod,Int.natCast_pow];rfl
theorem B4e(y k s:Nat):(y:Int)%256 * 2^s%256=(((y/2^(k-k)%256 * 2^s%256:Nat)):Int):=by
 rw[Nat.sub_self,Nat.pow_zero,Nat.div_one,C2v]
theorem B70(q N:Nat):be (q+1) (N * 2^8)=be q (N * 2^0)++[0]:=by
 rw[Nat.pow_zero,Nat.mul_one];exact B4d q N
end
section
def R8(l:List Nat):Nat:=l.foldl (λx b=>x * 256+b) 0
theorem A1m(l:List Nat)(b:Nat):R8 (l++[b])=R8 l * 256+b:=by simp[R8]
theorem A6q:∀n x,R8 (be n x)=x%256^n
 |0,x=>by simp[be,R8,Nat.mod_one]
 |n+1,x=>by
  rw[be,A1m,A6q n,Nat.pow_succ,Nat.mul_comm (256^n) 256,Nat.mod_mul]
  omega
theorem A3x:∀n (l:List Nat),l.length=n->(∀b∈l,b<256)->R8 l<256^n
 |0,l,h,_=>by
  obtain rfl:=List.eq_nil_of_length_eq_zero h
  decide
 |n+1,l,h,hb=>by
  have I:l≠[]:=λe=>by simp[e]at h
  rw[<-List.dropLast_concat_getLast I]at hb⊢
  have U:=A3x n l.dropLast (by simp[h]) (λb J=>hb b (by simp[J]))
  have V:=hb (l.getLast I) (by simp)
  rw[A1m,Nat.pow_succ]
  omega
theorem B71:∀n (l:List Nat),l.length=n->(∀b∈l,b<256)->be n (R8 l)=l
 |0,l,h,_=>by
  obtain rfl:=List.eq_nil_of_length_eq_zero h
  rfl
 |n+1,l,h,hb=>by
  have I:l≠[]:=λe=>by simp[e]at h
  have e:=List.dropLast_concat_getLast I
  rw[<-e]at hb
  have V:=hb (l.getLast I) (by simp)
  have J:=B71 n l.dropLast (by simp[h]) (λb U=>hb b (by simp[U]))
  have hv:R8 l=R8 l.dropLast * 256+l.getLast I:=by rw[<-A1m,e]
  rw[be,hv,show(R8 l.dropLast * 256+l.getLast I)/256=R8 l.dropLast by omega,show(R8 l.dropLast * 256+l.getLast I)%256=l.getLast I by omega,J,e]
theorem A6r(a:List Nat):∀n (b:List Nat),b.length=n->R8 (a++b)=R8 a * 256^n+R8 b
 |0,b,h=>by
  obtain rfl:=List.eq_nil_of_length_eq_zero h
  simp[R8]
 |n+1,b,h=>by
  have I:b≠[]:=λe=>by simp[e]at h
  have e:=List.dropLast_concat_getLast I
  have J:=A6r a n b.dropLast (by simp[h])
  have U:R8 b=R8 b.dropLast * 256+b.getLast I:=by rw[<-A1m,e]
  have h3:R8 (a++b)=R8 (a++b.dropLast) * 256+b.getLast I:=by rw[<-A1m,List.append_assoc,e]
  rw[h3,J,U,Nat.pow_succ,Nat.add_mul,Nat.mul_assoc]
  omega
def Q6(e c:Nat):Nat:=e * 1099511627776+c
theorem A6s{e c:Nat}(J:e<=16777215)(I:c<=1099511627775):Q6 e c<18446744073709551616:=by unfold Q6;omega
theorem C2w:256^8=18446744073709551616:=by decide
theorem B5B{e c:Nat}(J:e<=16777215)(I:c<=1099511627775):R8 (be 8 (Q6 e c))=Q6 e c:=by
 rw[A6q,C2w,Nat.mod_eq_of_lt (A6s J I)]
theorem B5C{e c:Nat}(I:c<=1099511627775):Q6 e c/1099511627776=e:=by unfold Q6;omega
theorem B5D{e c:Nat}(I:c<=1099511627775):Q6 e c%1099511627776=c:=by unfold Q6;omega
structure Pc where
 e:Nat
 c:Nat
 f:Bool
 g:Bool
 d:List Nat
def Pc.ok(p:Pc):Prop:=p.e<=16777215/\p.c<=1099511627775/\p.d.length<=106
instance (p:Pc):Decidable p.ok:=by unfold Pc.ok;exact inferInstance
def B72:Pc:=⟨0,0,false,false,[]⟩
def flg(f g:Bool):Nat:=(if f then 1 else 0)+(if g then 2 else 0)
theorem C2x(f g:Bool):flg f g<4:=by cases f<;>cases g<;>decide
theorem C0g{f g I J:Bool}(h:flg f g=flg I J):f=I/\g=J:=by
 revert h;cases f<;>cases g<;>cases I<;>cases J<;>decide
theorem C4b(f g:Bool):(flg f g%2==1)=f:=by cases f<;>cases g<;>decide
theorem C4c(f g:Bool):(flg f g/2%2==1)=g:=by cases f<;>cases g<;>decide
def front(p:Pc):List Nat:=be 8 (Q6 p.e p.c)++(flg p.f p.g::p.d.length::(p.d++List.replicate (106-p.d.length) 0))
def E8(p:Pc):List Nat:=front p++(be 4 (A7S (A3w (0,0) (front p)))++be 8 (Q6 p.e p.c))
theorem U3{p:Pc}(h:p.d.length<=106):(front p).length=116:=by
 simp only[front,List.length_append,C7,List.length_cons,List.length_replicate];omega
theorem A1B{p:Pc}(h:p.d.length<=106):(E8 p).length=128:=by
 simp only[E8,List.length_append,C7,U3 h]
theorem B09{p:Pc}(h:p.d.length<=106)(J:∀x∈p.d,x<256):∀x∈front p,x<256:=by
 intro x I
 rw[front,List.mem_append]at I
 rcases I with I|I
 ·exact A3T _ _ x I
 ·rw[List.mem_cons,List.mem_cons,List.mem_append]at I
  rcases I with rfl|rfl|I|I
  ·have:=C2x p.f p.g;omega
  ·omega
  ·exact J x I
  ·rw[List.eq_of_mem_replicate I];decide
theorem A6t{p:Pc}(h:p.d.length<=106)(J:∀x∈p.d,x<256):∀x∈E8 p,x<256:=by
 intro x I
 rw[E8,List.mem_append,List.mem_append]at I
 rcases I with I|I|I
 ·exact B09 h J x I
 ·exact A3T _ _ x I
 ·exact A3T _ _ x I
def dec(l:List Nat):Pc:=⟨R8 (l.take 8)/1099511627776,R8 (l.take 8)%1099511627776,l.getD 8 0%2==1,l.getD 8 0/2%2==1,(l.drop 10).take (l.getD 9 0)⟩
def A0q(l:List Nat):Prop:=l.length=128/\l.getD 9 0<=106/\E8 (dec l)=l
instance (l:List Nat):Decidable (A0q l):=by unfold A0q;exact inferInstance
def T8(l:List Nat):Pc:=if A0q l then dec l else B72
def A0t(l:List Nat):Int:=if A0q l then 0 else 4
theorem B73{l:List Nat}(h:l.length=128)(V:l.getD 9 0<=106)(J:∀x∈l,x<256):(dec l).ok:=by
 have I:=A3x 8 (l.take 8) (by simp[h]) (λx U=>J x (List.mem_of_mem_take U))
 rw[C2w]at I
 refine⟨?_,?_,?_⟩
 ·show R8 (l.take 8)/1099511627776<=16777215;omega
 ·show R8 (l.take 8)%1099511627776<=1099511627775;omega
 ·show((l.drop 10).take (l.getD 9 0)).length<=106;rw[List.length_take];omega
theorem A5v(p:Pc):(E8 p).take 8=be 8 (Q6 p.e p.c):=by
 rw[E8,front,List.append_assoc,List.take_left' (C7 8 _)]
theorem A7T{p:Pc}(h:p.d.length<=106):(E8 p).drop 120=be 8 (Q6 p.e p.c):=by
 rw[E8,<-List.append_assoc,List.drop_left' (by rw[List.length_append,U3 h,C7])]
theorem C0h(p:Pc):(E8 p).getD 8 0=flg p.f p.g:=by
 rw[E8,front,List.append_assoc,List.getD_eq_getElem?_getD,List.getElem?_append_right (by rw[C7];decide),C7];rfl
theorem B4f(p:Pc):(E8 p).getD 9 0=p.d.length:=by
 rw[E8,front,List.append_assoc,List.getD_eq_getElem?_getD,List.getElem?_append_right (by rw[C7];decide),C7];rfl
theorem B2M(p:Pc):((E8 p).drop 10).take p.d.length=p.d:=by
 have e:E8 p=(be 8 (Q6 p.e p.c)++[flg p.f p.g,p.d.length])++(p.d++(List.replicate (106-p.d.length) 0++(be 4 (A7S (A3w (0,0) (front p)))++be 8 (Q6 p.e p.c)))):=by
  simp[E8,front]
 rw[e,List.drop_left' (by simp[C7]),List.take_left' rfl]
theorem Y6{p:Pc}(h:p.ok):dec (E8 p)=p:=by
 obtain⟨J,I,h3⟩:=h
 unfold dec
 rw[A5v,B5B J I,B5C I,B5D I,C0h,B4f,C4b,C4c,B2M]
theorem A3y{p:Pc}(h:p.ok):A0q (E8 p):=⟨A1B h.2.2,by rw[B4f];exact h.2.2,by rw[Y6 h]⟩
theorem C2y{l:List Nat}(h:l.length=8)(U:∀x∈l,x<256):R8 l/1099511627776=R8 (l.take 3):=by
 have I:=A6r (l.take 3) 5 (l.drop 3) (by simp[h])
 have J:=A3x 5 (l.drop 3) (by simp[h]) (λx V=>U x (List.mem_of_mem_drop V))
 rw[List.take_append_drop]at I
 rw[I]
 have e:256^5=1099511627776:=by decide
 rw[e]at J⊢
 omega
end
section
open Go.RowKit
section
variable {P:Program} {ops:Array Oper} {Q:Exit->Act->World->Prop} {md:Region.Mode} {S:World->Prop} {i:Nat} {fuel:Nat} {listed:Array Bool} {a:Act} {w:World} {oi:Oper}
theorem sA{α:Type _}(l:List α)(i:Nat)(x:α):l.toArray.setIfInBounds i x=(l.set i x).toArray:=List.setIfInBounds_toArray l i x
theorem sB{α:Type _}(x y:α)(l:List α):(x::l).set 0 y=y::l:=rfl
theorem sC{α:Type _}(x y:α)(l:List α)(n:Nat):(x::l).set (n+1) y=x::l.set n y:=rfl
theorem D6{U:Nat}(I:S w.drew)(h:Hid (S w.drew)->wpAnyH P .any ops Q S ops.size (Array.replicate ops.size false) a w.drew)(J:P.follows .mixedOrders=true:=by kernel_rfl):(Code.region U ops true).wp P Q a w:=wp_region_held_drew J I (λx=>h (C6x x))
theorem tk{v:Value}(hS:S w)(hy:∀w,S w->(execOp a.eval oi).run P w= .ok (.value v) w)(h:wpAnyH P md ops Q S fuel (listed.setIfInBounds i true) (a.put oi.dst v) w)(hi:ops[i]? =some oi:=by exact rfl)
 (hs:Region.noSelect ops=true:=by kernel_rfl) (hf:Region.free md ops listed i=true:=by kernel_rfl) (hr:(Region.ready md ops listed).contains i=true:=by kernel_rfl) (hQ:∀c a w,Q (.panic c) (a.put oi.dst v) w->Q (.panic c) a w:=by exactλ_ _ _ h=>h)
 (hg:Region.wanted oi (yielded ops a.tmps)=true:=by rfl):wpAnyH P md ops Q S (fuel+1) listed a w:=wpAnyH_take hi hs hf hr hQ (.inl ⟨hg,hy⟩) hS h
theorem tks(hS:S w)(h:wpAnyH P md ops Q S fuel (listed.setIfInBounds i true) (a.put oi.dst undef) w)(hi:ops[i]? =some oi:=by exact rfl)
 (hs:Region.noSelect ops=true:=by kernel_rfl) (hf:Region.free md ops listed i=true:=by kernel_rfl) (hr:(Region.ready md ops listed).contains i=true:=by kernel_rfl) (hQ:∀c a w,Q (.panic c) (a.put oi.dst undef) w->Q (.panic c) a w:=by exactλ_ _ _ h=>h)
 (hg:Region.wanted oi (yielded ops a.tmps)=false:=by rfl):wpAnyH P md ops Q S (fuel+1) listed a w:=wpAnyH_take hi hs hf hr hQ (.inr ⟨hg,rfl⟩) hS h
theorem J5(h:∀I:Act->World->Prop,Shut (∀a w,S w->(S w->wpAnyH P md ops Q S fuel (listed.setIfInBounds i true) a w)->I a w)->if Region.wanted oi (yielded ops a.tmps)=true then Oper.wp P oi a w I Q else I (a.put oi.dst undef) w)
 (J:ops[i]? =some oi:=by exact rfl) (hr:Region.ready md ops listed=[i]:=by kernel_rfl):wpAnyH P md ops Q S (fuel+1) listed a w:=wpAnyH_ready hr (by simp) (AllReadyH.cons J h AllReadyH.nil)
section
variable {P:Program}{ops:Array Oper}{Q:Exit->Act->World->Prop}{md:Region.Mode}{S:World->Prop}{fuel:Nat}{listed:Array Bool}{a:Act}{w:World}{d:Option Tmp}{op:Op}{ty:TypeId}{ps:String}{af:Array Edge}{g:Option (Nat × Bool)}
theorem C6y(i:Nat){v:Value}{a':Act}(hi:ops[i]? =some ⟨d,op,ty,ps,af,g⟩)(h:wpAnyH P md ops Q S fuel (listed.setIfInBounds i true) a' w)(hS:S w:=by exact hH.out)(hy:∀w,S w->(execOp a.eval ⟨d,op,ty,ps,af,g⟩).run P w=.ok (.value v) w:=by rintro w s0;go_simp<;>with_reducible rfl)(ha:a.put d v=a':=by simp only[Act.put,sA,sB,sC]<;>rfl)(hs:Region.noSelect ops=true:=by kernel_rfl)(hf:Region.free md ops listed i=true:=by kernel_rfl)(hr:(Region.ready md ops listed).contains i=true:=by kernel_rfl)(hQ:∀c a w,Q (.panic c) (a.put d v) w->Q (.panic c) a w:=by exact λ_ _ _ h=>h)(hg:Region.wanted ⟨d,op,ty,ps,af,g⟩ (yielded ops a.tmps)=true:=by rfl):wpAnyH P md ops Q S (fuel+1) listed a w:=by subst ha;exact wpAnyH_take hi hs hf hr hQ (.inl ⟨hg,hy⟩) hS h
theorem C6z(i:Nat)(ho:ops[i]? =some ⟨d,op,ty,ps,af,g⟩)(h:∀K':Act->World->Prop,Shut (∀a w,S w->(S w->wpAnyH P md ops Q S fuel (listed.setIfInBounds i true) a w)->K' a w)->if Region.wanted ⟨d,op,ty,ps,af,g⟩ (yielded ops a.tmps)=true then Oper.wp P ⟨d,op,ty,ps,af,g⟩ a w K' Q else K' (a.put d undef) w)(hr:Region.ready md ops listed=[i]:=by kernel_rfl):wpAnyH P md ops Q S (fuel+1) listed a w:=wpAnyH_ready hr (by simp) (AllReadyH.cons ho h AllReadyH.nil)
theorem C60{S:World->Prop}{W:Act->World->Prop}{K:Act->World->Prop}{a:Act}{w:World}(hK:Shut (∀a w,S w->(S w->W a w)->K a w))(hs:S w)(h:Go.RowKit.Hid (S w)->W a w):K a w:=hK.out _ _ hs (λx=>h (Lib.hid x))
theorem C61(i:Nat){v:Value}{a':Act}(hi:ops[i]? =some ⟨d,op,ty,ps,af,g⟩)(h:wpAnyH P md ops Q S fuel (listed.setIfInBounds i true) a' w)(hS:S w:=by exact hH.out)(hy:∀w,S w->(execOp a.eval ⟨d,op,ty,ps,af,g⟩).run P w=.ok (.value v) w:=by rintro w _;go_simp<;>with_reducible rfl)(ha:a.put d v=a':=by simp only[Act.put,sA,sB,sC]<;>rfl)(hs:Region.noSelect ops=true:=by kernel_rfl)(hf:Region.free md ops listed i=true:=by kernel_rfl)(hr:(Region.ready md ops listed).contains i=true:=by kernel_rfl)(hQ:∀c a w,Q (.panic c) (a.put d v) w->Q (.panic c) a w:=by exact λ_ _ _ h=>h)(hg:Region.wanted ⟨d,op,ty,ps,af,g⟩ (yielded ops a.tmps)=true:=by rfl):wpAnyH P md ops Q S (fuel+1) listed a w:=by subst ha;exact wpAnyH_take hi hs hf hr hQ (.inl ⟨hg,hy⟩) hS h
theorem C62(i:Nat){v:Value}{a':Act}(hi:ops[i]? =some ⟨d,op,ty,ps,af,g⟩)(h:wpAnyH P md ops Q S fuel (listed.setIfInBounds i true) a' w)(hS:S w:=by exact hH.out)(hy:∀w,S w->(execOp a.eval ⟨d,op,ty,ps,af,g⟩).run P w=.ok (.value v) w:=by rintro w ⟨s0,s1⟩;go_simp<;>with_reducible rfl)(ha:a.put d v=a':=by simp only[Act.put,sA,sB,sC]<;>rfl)(hs:Region.noSelect ops=true:=by kernel_rfl)(hf:Region.free md ops listed i=true:=by kernel_rfl)(hr:(Region.ready md ops listed).contains i=true:=by kernel_rfl)(hQ:∀c a w,Q (.panic c) (a.put d v) w->Q (.panic c) a w:=by exact λ_ _ _ h=>h)(hg:Region.wanted ⟨d,op,ty,ps,af,g⟩ (yielded ops a.tmps)=true:=by rfl):wpAnyH P md ops Q S (fuel+1) listed a w:=by subst ha;exact wpAnyH_take hi hs hf hr hQ (.inl ⟨hg,hy⟩) hS h
theorem C63{d2:Option Tmp}{p2:Op}{y2:TypeId}{s2:String}{f2:Array Edge}{g2:Option (Nat × Bool)}(i j:Nat)(hi:ops[i]? =some ⟨d,op,ty,ps,af,g⟩)(hj:ops[j]? =some ⟨d2,p2,y2,s2,f2,g2⟩)(h:(∀K':Act->World->Prop,Shut (∀a w,S w->(S w->wpAnyH P md ops Q S fuel (listed.setIfInBounds i true) a w)->K' a w)->if Region.wanted ⟨d,op,ty,ps,af,g⟩ (yielded ops a.tmps)=true then Oper.wp P ⟨d,op,ty,ps,af,g⟩ a w K' Q else K' (a.put d undef) w))(k:(∀K':Act->World->Prop,Shut (∀a w,S w->(S w->wpAnyH P md ops Q S fuel (listed.setIfInBounds j true) a w)->K' a w)->if Region.wanted ⟨d2,p2,y2,s2,f2,g2⟩ (yielded ops a.tmps)=true then Oper.wp P ⟨d2,p2,y2,s2,f2,g2⟩ a w K' Q else K' (a.put d2 undef) w))(hr:Region.ready md ops listed=[i,j]:=by kernel_rfl):wpAnyH P md ops Q S (fuel+1) listed a w:=wpAnyH_ready hr (by simp) (AllReadyH.cons hi h (AllReadyH.cons hj k AllReadyH.nil))
theorem C64(i:Nat){v:Value}{a':Act}(hi:ops[i]? =some ⟨d,op,ty,ps,af,g⟩)(h:wpAnyH P md ops Q S fuel (listed.setIfInBounds i true) a' w)(hS:S w:=by exact hH.out)(hy:∀w,S w->(execOp a.eval ⟨d,op,ty,ps,af,g⟩).run P w=.ok (.value v) w:=by rintro w ⟨s0,s1,s2⟩;go_simp<;>with_reducible rfl)(ha:a.put d v=a':=by simp only[Act.put,sA,sB,sC]<;>rfl)(hs:Region.noSelect ops=true:=by kernel_rfl)(hf:Region.free md ops listed i=true:=by kernel_rfl)(hr:(Region.ready md ops listed).contains i=true:=by kernel_rfl)(hQ:∀c a w,Q (.panic c) (a.put d v) w->Q (.panic c) a w:=by exact λ_ _ _ h=>h)(hg:Region.wanted ⟨d,op,ty,ps,af,g⟩ (yielded ops a.tmps)=true:=by rfl):wpAnyH P md ops Q S (fuel+1) listed a w:=by subst ha;exact wpAnyH_take hi hs hf hr hQ (.inl ⟨hg,hy⟩) hS h
theorem C65(i:Nat)(v:Value){a':Act}(hi:ops[i]? =some ⟨d,op,ty,ps,af,g⟩)(hy:Region.wanted ⟨d,op,ty,ps,af,g⟩ (yielded ops a.tmps)=true/\(∀w,S w->(execOp a.eval ⟨d,op,ty,ps,af,g⟩).run P w=.ok (.value v) w)\/Region.wanted ⟨d,op,ty,ps,af,g⟩ (yielded ops a.tmps)=false/\v=undef)(h:wpAnyH P md ops Q S fuel (listed.setIfInBounds i true) a' w)(hS:S w:=by exact hH.out)(ha:a.put d v=a':=by simp only[Act.put,sA,sB,sC]<;>rfl)(hs:Region.noSelect ops=true:=by kernel_rfl)(hf:Region.free md ops listed i=true:=by kernel_rfl)(hr:(Region.ready md ops listed).contains i=true:=by kernel_rfl)(hQ:∀c a w,Q (.panic c) (a.put d v) w->Q (.panic c) a w:=by exact λ_ _ _ h=>h):wpAnyH P md ops Q S (fuel+1) listed a w:=by subst ha;exact wpAnyH_take hi hs hf hr hQ hy hS h
theorem C66(i:Nat){v:Value}{a':Act}(hi:ops[i]? =some ⟨d,op,ty,ps,af,g⟩)(h:wpAnyH P md ops Q S fuel (listed.setIfInBounds i true) a' w)(hS:S w:=by exact hH.out)(hy:∀w,S w->(execOp a.eval ⟨d,op,ty,ps,af,g⟩).run P w=.ok (.value v) w:=by rintro w ⟨s1,s2,s3⟩;go_simp<;>with_reducible rfl)(ha:a.put d v=a':=by simp only[Act.put,sA,sB,sC]<;>rfl)(hs:Region.noSelect ops=true:=by kernel_rfl)(hf:Region.free md ops listed i=true:=by kernel_rfl)(hr:(Region.ready md ops listed).contains i=true:=by kernel_rfl)(hQ:∀c a w,Q (.panic c) (a.put d v) w->Q (.panic c) a w:=by exact λ_ _ _ h=>h)(hg:Region.wanted ⟨d,op,ty,ps,af,g⟩ (yielded ops a.tmps)=true:=by rfl):wpAnyH P md ops Q S (fuel+1) listed a w:=by subst ha;exact wpAnyH_take hi hs hf hr hQ (.inl ⟨hg,hy⟩) hS h
theorem C67(i:Nat){v:Value}{a':Act}(hi:ops[i]? =some ⟨d,op,ty,ps,af,g⟩)(h:wpAnyH P md ops Q S fuel (listed.setIfInBounds i true) a' w)(hS:S w:=by exact hH.out)(hy:∀w,S w->(execOp a.eval ⟨d,op,ty,ps,af,g⟩).run P w=.ok (.value v) w:=by rintro w ⟨s0,s1,s2,s3,s4,s5,s6,s7,s8,s9⟩;go_simp<;>with_reducible rfl)(ha:a.put d v=a':=by simp only[Act.put,sA,sB,sC]<;>rfl)(hs:Region.noSelect ops=true:=by kernel_rfl)(hf:Region.free md ops listed i=true:=by kernel_rfl)(hr:(Region.ready md ops listed).contains i=true:=by kernel_rfl)(hQ:∀c a w,Q (.panic c) (a.put d v) w->Q (.panic c) a w:=by exact λ_ _ _ h=>h)(hg:Region.wanted ⟨d,op,ty,ps,af,g⟩ (yielded ops a.tmps)=true:=by rfl):wpAnyH P md ops Q S (fuel+1) listed a w:=by subst ha;exact wpAnyH_take hi hs hf hr hQ (.inl ⟨hg,hy⟩) hS h
theorem C68(i:Nat){a':Act}(hi:ops[i]? =some ⟨d,op,ty,ps,af,g⟩)(h:wpAnyH P md ops Q S fuel (listed.setIfInBounds i true) a' w)(hS:S w:=by exact hH.out)(ha:a.put d undef=a':=by simp only[Act.put,sA,sB,sC]<;>rfl)(hs:Region.noSelect ops=true:=by kernel_rfl)(hf:Region.free md ops listed i=true:=by kernel_rfl)(hr:(Region.ready md ops listed).contains i=true:=by kernel_rfl)(hQ:∀c a w,Q (.panic c) (a.put d undef) w->Q (.panic c) a w:=by exact λ_ _ _ h=>h)(hg:Region.wanted ⟨d,op,ty,ps,af,g⟩ (yielded ops a.tmps)=false:=by rfl):wpAnyH P md ops Q S (fuel+1) listed a w:=by subst ha;exact wpAnyH_take hi hs hf hr hQ (.inr ⟨hg,rfl⟩) hS h
theorem C69(i:Nat){v:Value}{a':Act}(hi:ops[i]? =some ⟨d,op,ty,ps,af,g⟩)(h:wpAnyH P md ops Q S fuel (listed.setIfInBounds i true) a' w)(hS:S w:=by exact hH.out)(hy:∀w,S w->(execOp a.eval ⟨d,op,ty,ps,af,g⟩).run P w=.ok (.value v) w:=by rintro w ⟨s0,s1,s2,s3,s4⟩;go_simp<;>with_reducible rfl)(ha:a.put d v=a':=by simp only[Act.put,sA,sB,sC]<;>rfl)(hs:Region.noSelect ops=true:=by kernel_rfl)(hf:Region.free md ops listed i=true:=by kernel_rfl)(hr:(Region.ready md ops listed).contains i=true:=by kernel_rfl)(hQ:∀c a w,Q (.panic c) (a.put d v) w->Q (.panic c) a w:=by exact λ_ _ _ h=>h)(hg:Region.wanted ⟨d,op,ty,ps,af,g⟩ (yielded ops a.tmps)=true:=by rfl):wpAnyH P md ops Q S (fuel+1) listed a w:=by subst ha;exact wpAnyH_take hi hs hf hr hQ (.inl ⟨hg,hy⟩) hS h
end
end
def C3(w:World)(g:Nat)(t:TypeId)(cs:Array Value):Prop:=w.heap[g]? =some (.cells cs t (0,0))
section
variable {w w':World} {g:Nat} {t:TypeId} {cs:Array Value}
theorem C3.lt(h:C3 w g t cs):g<w.heap.size:=by
 rcases Nat.lt_or_ge g w.heap.size with J|I
 ·exact J
 ·unfold C3 at h;rw[Array.getElem?_eq_none I]at h;cases h
theorem C3.cell(h:C3 w g t cs)(i:Nat):w.cell? ⟨g,i,none⟩=cs[i]? :=cell_of_row w g i cs t (0,0) h
theorem C3.frozen(h:C3 w g t cs)(i:Nat):w.frozen? ⟨g,i,none⟩=false:=by
 unfold C3 at h
 simp[World.frozen?,h]
theorem C3.new(w:World)(t:TypeId)(cs:Array Value):C3 (w.alloc (.cells cs t)) w.heap.size t cs:=heap_alloc_new w _
theorem C3.set_(h:C3 w g t cs)(i:Nat)(u:Value):C3 (w.setCell ⟨g,i,none⟩ u) g t (cs.setIfInBounds i u):=by
 unfold C3 at h⊢
 simp[World.setCell,Array.getElem?_modify,h]
theorem C3.far(h:C3 w g t cs){p:Addr}(I:g≠p.block)(u:Value):C3 (w.setCell p u) g t cs:=(Below.heap_setCell w p u g I).trans h
theorem C3.alloc(h:C3 w g t cs)(o:Obj):C3 (w.alloc o) g t cs:=(Below.heap_alloc w o g h.lt).trans h
theorem C3.keep(h:C3 w g t cs)(I:w'.heap[g]? =w.heap[g]?):C3 w' g t cs:=I.trans h
theorem C3.drew(h:C3 w g t cs):C3 w.drew g t cs:=h
theorem C3.ne_{J:Nat}{U:TypeId}{V:Array Value}(h:C3 w g t cs)(I:C3 w J U V)(W:t≠U):g≠J:=by
 rintro rfl
 unfold C3 at h I
 rw[h]at I
 injection I with I
 injection I with _ ht
 exact W ht
theorem P5{I:Nat}{e:TypeId}{size n:Nat}{v:Value}{xs:List Value}(h:w.ownsRow I e size v n xs)(V:C3 w g t cs)(X:e≠t):v.ownBlock≠some g:=by
 rcases h.2 with⟨rfl,_⟩|⟨J,Y,Z,rfl,_,W,_⟩
 ·simp[Value.ownBlock]
 ·intro U
  have:J=g:=by simpa[Value.ownBlock]using U
  subst this
  exact C3.ne_ (t:=e) W V X rfl
end
structure B0 (F:Nat->Prop) (w:World) (F':Nat->Prop) (w':World):Prop where
 os:w'.os=w.os
 tape:w'.tape=w.tape
 output:w'.output=w.output
 size:w.heap.size<=w'.heap.size
 block:∀k,k<w.heap.size->¬F k->w'.heap[k]? =w.heap[k]?
 into:∀k,F' k->F k\/w.heap.size<=k
def Sep(F G:Nat->Prop):Prop:=∀k,F k->G k->False
def Bd(F:Nat->Prop)(w:World):Prop:=∀k,F k->k<w.heap.size
def B5:Nat->Prop:=λ_=>False
section
variable {F F' F'' G:Nat->Prop} {w w' w'':World}
theorem B0.refl(F:Nat->Prop)(w:World):B0 F w F w:=⟨rfl,rfl,rfl,Nat.le_refl _,λ_ _ _=>rfl,λ_ h=>.inl h⟩
theorem B0.trans(h:B0 F w F' w')(k:B0 F' w' F'' w''):B0 F w F'' w'':=
 ⟨k.os.trans h.os,k.tape.trans h.tape,k.output.trans h.output,Nat.le_trans h.size k.size,
  λi hi J=>(k.block i (Nat.lt_of_lt_of_le hi h.size) (λU=>by rcases h.into i U with I|I;exact J I;omega)).trans (h.block i hi J),
  λi hi=>by
   rcases k.into i hi with I|I
   ·exact h.into i I
   ·exact .inr (Nat.le_trans h.size I)⟩
theorem B0.sep(h:B0 F w F' w')(V:Sep F G)(U:Bd G w):Sep F' G:=λk J I=>by
 rcases h.into k J with h3|h3
 ·exact V k h3 I
 ·exact absurd (U k I) (by omega)
theorem Sep.symm(h:Sep F G):Sep G F:=λk a b=>h k b a
theorem B0.bd(h:B0 F w F' w')(I:Bd G w):Bd G w':=λk J=>Nat.lt_of_lt_of_le (I k J) h.size
theorem B0.far(h:B0 F w F' w')(V:Sep F G)(J:Bd G w):∀k,G k->w'.heap[k]? =w.heap[k]? :=λk I=>h.block k (J k I) (λU=>V k U I)
theorem B0.below{B:Nat}{I:World}(J:Below B I w)(h:B0 F w F' w')(U:∀k,F k->B<=k)(V:B<=w.heap.size):Below B I w':=
 J.trans ⟨h.os,h.tape,h.output,h.size,λk W=>h.block k (by omega) (λhF=>by have:=U k hF;omega)⟩
theorem B0.of_below(h:Below w.heap.size w w'):B0 F w F w':=⟨h.os,h.tape,h.output,h.size,λk I _=>h.block k I,λ_ I=>.inl I⟩
theorem B0.new_(h:Below w.heap.size w w')(J:∀k,F' k->w.heap.size<=k):B0 B5 w F' w':=⟨h.os,h.tape,h.output,h.size,λk I _=>h.block k I,λk I=>.inr (J k I)⟩
theorem B0.toBelow(h:B0 B5 w F' w'):Below w.heap.size w w':=⟨h.os,h.tape,h.output,h.size,λk I=>h.block k I (λx=>x)⟩
theorem B0.weak(h:B0 F w F' w')(J:∀k,F k->G k):B0 G w F' w':=⟨h.os,h.tape,h.output,h.size,λk I V=>h.block k I (λU=>V (J k U)),λk I=>(h.into k I).imp (J k) id⟩
theorem B0.sub(h:B0 F w F' w')(I:∀k,G k->F' k):B0 F w G w':=⟨h.os,h.tape,h.output,h.size,h.block,λk J=>h.into k (I k J)⟩
theorem B0.drew(h:B0 F w F' w'):B0 F w F' w'.drew:=⟨h.os,h.tape,h.output,h.size,h.block,h.into⟩
theorem B0.drewN(h:B0 F w F' w')(n:Nat):B0 F w F' (w'.drewN n):=⟨h.os,h.tape,h.output,h.size,h.block,h.into⟩
theorem B0.alloc(h:B0 F w F' w')(o:Obj):B0 F w F' (w'.alloc o):=
 h.trans ⟨rfl,rfl,rfl,by simp,λk I _=>Below.heap_alloc _ _ _ I,λ_ I=>.inl I⟩
theorem B0.setCell(h:B0 F w F' w'){p:Addr}(I:F p.block\/w.heap.size<=p.block)(u:Value):B0 F w F' (w'.setCell p u):=
 ⟨h.os,h.tape,h.output,by simpa[World.setCell]using h.size,λk U J=>(Below.heap_setCell _ _ _ _ (by
  rintro rfl
  rcases I with I|I
  ·exact J I
  ·omega)).trans (h.block k U J),h.into⟩
theorem B0.grown{W:Option Nat}(h:B0 F w F' w')(I:w'.grownBy w'' W)(X:∀k,W=some k->F k\/w.heap.size<=k):B0 F w F' w'':=
 ⟨I.os.trans h.os,I.tape.trans h.tape,I.output.trans h.output,Nat.le_trans h.size I.size,λk U V=>(I.block k (Nat.lt_of_lt_of_le U h.size) (λe=>by
  rcases X k e.symm with J|J
  ·exact V J
  ·omega)).trans (h.block k U V),h.into⟩
end
structure Sl (w:World) (F:Nat->Prop) (e:TypeId) (size:Nat) (v:Value) (n:Nat) (xs:List Value):Prop where
 own:w.ownsRow 0 e size v n xs
 inF:∀k,v.ownBlock=some k->F k
 bd:Bd F w
section
variable {F F' G:Nat->Prop} {w w':World} {e:TypeId} {size n:Nat} {v:Value} {xs:List Value}
theorem J2{I:Nat}(h:w.ownsRow I e size v n xs)(X:∀k,v.ownBlock=some k->w'.heap[k]? =w.heap[k]?):w'.ownsRow I e size v n xs:=by
 refine⟨h.1,?_⟩
 rcases h.2 with Y|⟨g,J,U,rfl,V,W,rest⟩
 ·exact .inl Y
 ·exact .inr ⟨g,J,U,rfl,V,(X g rfl).trans W,rest⟩
theorem A07{I:Nat}(h:w.ownsRow I e size v n xs):w.ownsRow 0 e size v n xs:=by
 refine⟨h.1,?_⟩
 rcases h.2 with V|⟨g,J,U,rfl,W,rest⟩
 ·exact .inl V
 ·exact .inr ⟨g,J,U,rfl,Nat.zero_le _,rest⟩
theorem Sl.far(h:Sl w F e size v n xs)(I:B0 G w F' w')(U:Sep G F):Sl w' F e size v n xs:=
 ⟨J2 h.own λk J=>I.far U h.bd k (h.inF k J),h.inF,I.bd h.bd⟩
theorem Sl.drew(h:Sl w F e size v n xs):Sl w.drew F e size v n xs:=⟨h.own,h.inF,h.bd⟩
theorem Sl.nil(w:World)(e:TypeId)(size:Nat):Sl w B5 e size (.slice none 0 0) 0 []:=
 ⟨World.ownsRow_nil _ _ _ _,by simp[Value.ownBlock],λ_ h=>h.elim⟩
theorem Sl.nilF(w:World)(F:Nat->Prop)(I:Bd F w)(e:TypeId)(size:Nat):Sl w F e size (.slice none 0 0) 0 []:=
 ⟨World.ownsRow_nil _ _ _ _,by simp[Value.ownBlock],I⟩
theorem Sl.form(h:Sl w F e size v n xs)(J:0<n):∃g I,v= .slice (some ⟨g,0,none⟩) n I/\F g/\n<=I:=by
 obtain⟨g,I,hv,_,_⟩:=h.own.form J
 subst hv
 refine⟨g,I,rfl,h.inF g rfl,?_⟩
 rcases h.own.2 with⟨hv,_⟩|⟨W,U,V,hv,_,_,X,_⟩
 ·cases hv
 ·injection hv with _ _ h3;omega
theorem Sl.form0(h:Sl w F e size v n xs):∃a I,v= .slice a n I/\n<=I/\I<=maxLen:=by
 rcases h.own.2 with⟨rfl,rfl⟩|⟨X,V,W,rfl,_,_,J,U,_⟩
 ·exact⟨_,_,rfl,Nat.le_refl _,Nat.zero_le _⟩
 ·exact⟨_,_,rfl,J,U⟩
end
def Rd(w:World)(size:Nat)(v:Value)(n:Nat)(xs:List Value):Prop:=
 ∃A c,v= .slice A n c/\n<=c/\c<=maxLen/\xs.length=n * size/\(A=none->c=0)/\(0<n->∃I,A=some I/\I.block<w.heap.size/\∀j u,xs[j]? =some u->w.cell? (I.add j)=some u)
section
variable {F F' G:Nat->Prop} {w w':World} {e:TypeId} {size n:Nat} {v:Value} {xs:List Value}
theorem A01(a:Addr)(j:Nat):(a.add j).block=a.block:=by unfold Addr.add;split<;>rfl
theorem Sl.rd(h:Sl w F e size v n xs):Rd w size v n xs:=by
 rcases h.own.2 with⟨rfl,rfl⟩|⟨g,V,W,rfl,_,X,U,J,_,_⟩
 ·exact⟨none,0,rfl,Nat.le_refl _,Nat.zero_le _,h.own.1,λ_=>rfl,λI=>absurd I (by omega)⟩
 ·exact⟨_,_,rfl,U,J,h.own.1,λI=>by(cases I),λ_=>⟨_,rfl,h.bd g (h.inF g rfl),h.own.cells (g:=g) rfl⟩⟩
theorem Rd.far(h:Rd w size v n xs)(hk:∀k,v.ownBlock=some k->0<n->k<w.heap.size->w'.heap[k]? =w.heap[k]?) (hs:w.heap.size<=w'.heap.size):Rd w' size v n xs:=by
 obtain⟨A,c,rfl,V,W,h3,X,Y⟩:=h
 refine⟨A,c,rfl,V,W,h3,X,λJ=>?_⟩
 obtain⟨U,rfl,I,Z⟩:=Y J
 refine⟨U,rfl,Nat.lt_of_lt_of_le I hs,λj u hu=>?_⟩
 rw[<-Z j u hu]
 exact World.cell?_of_block (by rw[A01];exact hk _ rfl J I)
theorem Rd.below{B:Nat}(h:Rd w size v n xs)(I:Below B w w')(J:∀k,v.ownBlock=some k->0<n->k<w.heap.size->k<B):Rd w' size v n xs:=
 h.far (λk U W V=>I.block k (J k U W V)) I.size
end
theorem B0.of_drewN{F F':Nat->Prop}{w w':World}{n:Nat}(h:B0 F (w.drewN n) F' w'):B0 F w F' w':=⟨h.os,h.tape,h.output,h.size,h.block,h.into⟩
theorem B0.same{F F' G:Nat->Prop}{w w':World}(h:B0 F w F' w')(J:∀k,F k->G k):B0 G w G w':=⟨h.os,h.tape,h.output,h.size,λk I V=>h.block k I (λU=>V (J k U)),λ_ I=>.inl I⟩
theorem B0.of_drew{F F':Nat->Prop}{w w':World}(h:B0 F w.drew F' w'):B0 F w F' w':=⟨h.os,h.tape,h.output,h.size,h.block,h.into⟩
theorem B0.over{F F' G:Nat->Prop}{w I w2:World}(h:B0 F w G I)(k:B0 B5 I F' w2):B0 F w G w2:=h.trans (k.same (λ_ x=>x.elim))
end
section
open Go.ChangeShapes Go.WideShapes Go.ChangeAt Go.RowKit
theorem Tryz.infoU8:(Tryz.prog.info? 5).map (λi=>(i.zero,i.size,i.bytes))=some (some (.int .u8 0),1,1):=by kernel_rfl
def u8(x:Nat):Value:=.int .u8 (x:Int)
theorem T5(l:List Nat):∀u∈l.map u8,u.oneCell'=true:=by
 intro u I
 obtain⟨x,_,rfl⟩:=List.mem_map.1 I
 rfl
theorem A9p(k:IntKind)(I:List Int)(n j:Nat)(u:Value)(h:((I.take n).map (Value.int k))[j]? =some u):j<n/\j<I.length/\u= .int k (I.getD j 0):=by
 have J:=(List.getElem?_eq_some_iff.1 h).1
 simp only[List.length_map,List.length_take]at J
 refine⟨by omega,by omega,?_⟩
 rw[List.getElem?_map,List.getElem?_take,if_pos (by omega),List.getElem?_eq_getElem (by omega)]at h
 simp only[Option.map_some,Option.some.injEq]at h
 rw[<-h,List.getD_eq_getElem?_getD,List.getElem?_eq_getElem (by omega)]
 rfl
theorem add_none(b o j:Nat):(⟨b,o,none⟩:Addr).add j=⟨b,o+j,none⟩:=by unfold Addr.add;split<;>simp_all
theorem Rd.cells{w:World}{size n c:Nat}{A:Option Addr}{xs:List Value}(h:Rd w size (.slice A n c) n xs)(J:0<n)(hs:0<size):∃b o,A=some ⟨b,o,none⟩/\b<w.heap.size/\∀j u,xs[j]? =some u->w.cell? ⟨b,o+j,none⟩=some u:=by
 obtain⟨A',c',e,_,_,X,_,Z⟩:=h
 injection e with e1 e2 e3
 subst e1
 obtain⟨U,rfl,W,I⟩:=Z J
 have Y:0<xs.length:=by rw[X];exact Nat.mul_pos J hs
 have V:=I 0 _ (List.getElem?_eq_getElem Y)
 obtain⟨b,o,aB⟩:=U
 have aA:aB=none:=by simpa[Addr.add]using World.cell?_spot V
 subst aA
 exact⟨b,o,rfl,W,λj u hu=>by rw[<-add_none];exact I j u hu⟩
theorem Rd.form{w:World}{size n:Nat}{v:Value}{xs:List Value}(h:Rd w size v n xs):∃A c,v= .slice A n c/\n<=c/\c<=maxLen:=by
 obtain⟨A,c,rfl,I,J,_⟩:=h
 exact⟨A,c,rfl,I,J⟩
theorem C3L{w wr U:World}{F:Nat->Prop}{v I:Value}{k m:Nat}{xs Z:List Value}{o:Obj}(V:Sl wr F 5 1 v k xs)(ha:B0 B5 w F wr)(Y:U.ownsRow 0 5 1 I (k+1) Z)(hg:(wr.alloc o).grownBy U v.ownBlock)
 (aB:I.ownBlock=v.ownBlock\/I.ownBlock=some m) (hm:wr.heap.size<=m):Sl U (λj=>F j\/I.ownBlock=some j) 5 1 I (k+1) Z/\B0 B5 w (λj=>F j\/I.ownBlock=some j) U:=by
 have aA:∀j,(F j\/I.ownBlock=some j)->F j\/wr.heap.size<=j:=by
  rintro j (h|h)
  ·exact .inl h
  ·rcases aB with e|e
   ·exact .inl (V.inF j (by rw[<-e];exact h))
   ·rw[e]at h;injection h with h;right;omega
 have X:B0 F wr (λj=>F j\/I.ownBlock=some j) U:=by
  have J:=((B0.refl F wr).alloc o).grown hg (λj W=>.inl (V.inF j W))
  exact⟨J.os,J.tape,J.output,J.size,J.block,aA⟩
 refine⟨⟨Y,λj W=>.inr W,?_⟩,ha.trans X⟩
 rintro j (h|h)
 ·exact Nat.lt_of_lt_of_le (V.bd j h) X.size
 ·exact(Y.lt j h).2
theorem A4E{w w2 J:World}{F:Nat->Prop}{v I:Value}{k n m:Nat}{xs Z:List Value}(W:Sl w2 F 5 1 v k xs)(ha:B0 B5 w F w2)(Y:J.ownsRow 0 5 1 I n Z)(hg:w2.grownBy J v.ownBlock)
 (aB:I.ownBlock=v.ownBlock\/I.ownBlock=some m) (hm:w2.heap.size<=m):Sl J (λj=>F j\/I.ownBlock=some j) 5 1 I n Z/\B0 F w2 (λj=>F j\/I.ownBlock=some j) J/\B0 B5 w (λj=>F j\/I.ownBlock=some j) J:=by
 have aA:∀j,(F j\/I.ownBlock=some j)->F j\/w2.heap.size<=j:=by
  rintro j (h|h)
  ·exact .inl h
  ·rcases aB with e|e
   ·exact .inl (W.inF j (by rw[<-e];exact h))
   ·rw[e]at h;injection h with h;right;omega
 have V:B0 F w2 (λj=>F j\/I.ownBlock=some j) J:=by
  have U:=(B0.refl F w2).grown hg (λj X=>.inl (W.inF j X))
  exact⟨U.os,U.tape,U.output,U.size,U.block,aA⟩
 refine⟨⟨Y,λj X=>.inr X,?_⟩,V,ha.trans V⟩
 rintro j (h|h)
 ·exact Nat.lt_of_lt_of_le (W.bd j h) V.size
 ·exact(Y.lt j h).2
theorem A7U{w:World}{ty:TypeId}{v Z:Value}{n m:Nat}{xs I:List Value}(U:w.ownsRow 0 5 1 v n xs)(hr:Rd w 1 Z m I)(h1:∀u∈I,u.oneCell'=true)(hn:n+m<=1000000000):
 ∃J w',(Builtin.append_ #[54,54] ty #[v,Z]).run Tryz.prog w= .ok J w'/\w'.ownsRow 0 5 1 J (n+m) (xs++I)/\w.grownBy w' v.ownBlock/\(J.ownBlock=v.ownBlock\/J.ownBlock=some w.heap.size):=by
 obtain⟨Y,hi,aC,aD,aE⟩:=info_parts Tryz.infoU8
 obtain⟨A,c,rfl,aG,_,X,hA,hc⟩:=hr
 rcases A with _|V
 ·obtain rfl:c=0:=hA rfl
  obtain rfl:m=0:=by omega
  obtain rfl:I=[]:=List.eq_nil_of_length_eq_zero (by simpa using X)
  exact⟨v,w,run_append_owned_none (P:=Tryz.prog) w 0 54 ty 5 Y 1 Tryz.underlying54 hi v n xs U,by simpa using U,World.grownBy.refl _ _,.inl rfl⟩
 ·have aA:∀j u,I[j]? =some u->w.cell? (V.add j)=some u:=by
   intro j u W
   have hj:j<I.length:=(List.getElem?_eq_some_iff.1 W).1
   obtain⟨aF,e,_,h⟩:=hc (by omega)
   have e:=Option.some.inj e
   subst e
   exact h j u W
  obtain⟨J,w',aB,h2,h3,_,h5⟩:=run_append_own_at (P:=Tryz.prog) w 0 54 ty 5 Y (.int .u8 0) 1 1 Tryz.underlying54 hi aC aD aE rfl (by decide) v n xs U V m c I X aA h1 (by unfold maxLen;omega) (by omega) (Nat.zero_le _)
  exact⟨J,w',aB,h2,h3,h5⟩
theorem A4F{w:World}{ops:Array Oper}{rest:List Oper}{o:Oper}{a:Act}{Q:Exit->Act->World->Prop}(Y:o.guard=none)(s x:Operand)
 (ho:o.op= .call { callee:=.builtin .append,args:= #[s,x],argTypes:= #[54,54] })
 {v U:Value} {n m:Nat} {xs J:List Value} (hs:a.eval s=v) (hx:a.eval x=U) (aA:w.ownsRow 0 5 1 v n xs) (hr:Rd w 1 U m J) (V:∀u∈J,u.oneCell'=true) (Z:n+m<=1000000000)
 (h:∀I w',w'.ownsRow 0 5 1 I (n+m) (xs++J)->w.grownBy w' v.ownBlock->(I.ownBlock=v.ownBlock\/I.ownBlock=some w.heap.size)->wpList Tryz.prog ops Q rest (a.put o.dst I) w'):wpList Tryz.prog ops Q (o::rest) a w:=by
 refine wpList_plain Y λK hK=>?_
 obtain⟨I,w',aB,W,h3,X⟩:=A7U (ty:=o.type) aA hr V Z
 unfold Oper.wp execOp
 simp only[ho,resolve,invoke,builtin,Sem.run_bind,Sem.run_pure,Result.andThen_ok,List.map_toArray,List.map_cons,List.map_nil,hs,hx,aB]
 exact hK _ _ (h I w' W h3 X)
end
section
open Go.ChangeShapes Go.WideShapes Go.ChangeAt Go.RowKit
theorem B2N(x a b:Int)(w:World)(I:a<=b):
 Calls Tryz.prog 8 #[.int .i64 x,.int .i64 a,.int .i64 b] w λe w'=>∃y:Int,e= .returned (.int .i64 y)/\a<=y/\y<=b/\(a<=x->x<=b->y=x)/\w=w':=by
 by_cases J:x<a
 ·go_enter Tryz.func8,Tryz.ntmps8
  go_wp2
  go_ret
  exact⟨a,rfl,by omega,I,by omega,rfl⟩
 ·by_cases U:b<x
  ·go_enter Tryz.func8,Tryz.ntmps8
   go_wp2
   go_ret
   exact⟨b,rfl,I,by omega,by omega,rfl⟩
  ·go_enter Tryz.func8,Tryz.ntmps8
   go_wp2
   go_ret
   exact⟨x,rfl,by omega,by omega,by simp,rfl⟩
structure In (W:World) (v:Value) (l:List Nat):Prop where
 rd:Rd W 1 v l.length (l.map u8)
 old:∀b,v.ownBlock=some b->0<l.length->b<W.heap.size
 lt:∀x∈l,x<256
theorem In.below{W w:World}{v:Value}{l:List Nat}(h:In W v l)(I:Below W.heap.size W w):Rd w 1 v l.length (l.map u8):=h.rd.below I (λk J U _=>h.old k J U)
theorem In.far{W w:World}{v:Value}{l:List Nat}(h:In W v l)(I:Below W.heap.size W w):In w v l:=⟨h.below I,λb J U=>Nat.lt_of_lt_of_le (h.old b J U) I.size,h.lt⟩
theorem Sl.set8{w:World}{F:Nat->Prop}{g c n:Nat}{l:List Nat}(h:Sl w F 5 1 (.slice (some ⟨g,0,none⟩) n c) n (l.map u8))(k y:Nat)(v:Int)(hv:v=(y:Int)):
 Sl (w.setCell ⟨g,k,none⟩ (.int .u8 v)) F 5 1 (.slice (some ⟨g,0,none⟩) n c) n ((l.set k y).map u8):=by
 have I:=(h.own.stored k (.int .u8 v)).1
 refine⟨?_,h.inF,λj J=>by have:=h.bd j J;simpa[World.setCell]using this⟩
 rw[List.map_set,show u8 y= .int .u8 v from by rw[hv];rfl]
 exact I
theorem Sl.at8{w:World}{F:Nat->Prop}{g c n k:Nat}{l:List Nat}(h:Sl w F 5 1 (.slice (some ⟨g,0,none⟩) n c) n (l.map u8))(J:k<n)(I:k<l.length):w.cell? ⟨g,k,none⟩=some (.int .u8 (l[k]:Int)):=by
 rw[h.own.cellAt k (by omega),List.getElem?_map,List.getElem?_eq_getElem I];rfl
end
section
open Go.RowKit
theorem B2P(e c:Nat)(U:e<=16777215)(J:c<=1099511627775):bits .or .u64 ((e:Int) * 1099511627776) (c:Int)=((Q6 e c:Nat):Int):=by
 have I:=u64_or_nat (e * 1099511627776) c (by omega) (by omega)
 rw[Go.nat_join 40 _ _ (by omega) (by omega)]at I
 exact I
theorem B5E(s:Nat)(h:s<18446744073709551616):bits .and .u64 (s:Int) 1099511627775=((s%1099511627776:Nat):Int):=by
 have I:=u64_and_nat s 1099511627775 h (by decide)
 rw[Nat.and_two_pow_sub_one_eq_mod s 40]at I
 exact I
theorem A3V(e c:Nat)(J:e<=16777215)(I:c<=1099511627775)(w:World):
 Calls Tryz.prog 195 #[.int .u64 (e:Int),.int .u64 (c:Int)] w λx w'=>x= .returned (.tuple #[.int .u64 ((Q6 e c:Nat):Int),.int .i64 0])/\w=w':=by
 have W:=B2P e c J I
 have U:(e:Int)<=16777215:=by omega
 have V:(c:Int)<=1099511627775:=by omega
 clear J I
 go_enter Tryz.func195,Tryz.ntmps195
 go_wp2
 go_ret2
 exact⟨rfl,rfl⟩
theorem B4g(e c:Nat)(h:¬(e<=16777215/\c<=1099511627775))(w:World):
 Calls Tryz.prog 195 #[.int .u64 (e:Int),.int .u64 (c:Int)] w λx w'=>x= .returned (.tuple #[.int .u64 0,.int .i64 2])/\w=w':=by
 by_cases I:e<=16777215
 ·have J:(e:Int)<=16777215:=by omega
  have U:1099511627775<(c:Int):=by omega
  clear I h
  go_enter Tryz.func195,Tryz.ntmps195
  go_wp2
  go_ret2
  exact⟨rfl,rfl⟩
 ·have J:16777215<(e:Int):=by omega
  clear I h
  go_enter Tryz.func195,Tryz.ntmps195
  go_wp2
  go_ret2
  exact⟨rfl,rfl⟩
theorem A2F(s:Nat)(w:World):Calls Tryz.prog 155 #[.int .u64 (s:Int)] w λx w'=>x= .returned (.int .u64 ((s/1099511627776:Nat):Int))/\w=w':=by
 go_enter Tryz.func155,Tryz.ntmps155
 go_wp2
 go_ret
 exact⟨rfl,rfl⟩
theorem A4G(s:Nat)(h:s<18446744073709551616)(w:World):Calls Tryz.prog 192 #[.int .u64 (s:Int)] w λx w'=>x= .returned (.int .u64 ((s%1099511627776:Nat):Int))/\w=w':=by
 have I:=B5E s h
 clear h
 go_enter Tryz.func192,Tryz.ntmps192
 go_wp2
 go_ret
 exact⟨rfl,rfl⟩
theorem A8t(e c:Int)(f g:Bool)(v:Value)(w:World):
 Calls Tryz.prog 197 #[.agg #[.int .u64 e,.int .u64 c,.bool f,.bool g,v]] w λx w'=>x= .returned (.int .u8 ((flg f g:Nat):Int))/\w'=w.alloc (.cells #[.int .u64 e,.int .u64 c,.bool f,.bool g,v] 201):=by
 have I:bits .or .u8 0 1=1:=by decide
 have J:bits .or .u8 0 2=2:=by decide
 have h3:bits .or .u8 1 2=3:=by decide
 cases f with
 |true=>
  cases g with
  |true=>go_enter Tryz.func197,Tryz.ntmps197;go_wp2;go_ret;exact⟨rfl,rfl⟩
  |false=>go_enter Tryz.func197,Tryz.ntmps197;go_wp2;go_ret;exact⟨rfl,rfl⟩
 |false=>
  cases g with
  |true=>go_enter Tryz.func197,Tryz.ntmps197;go_wp2;go_ret;exact⟨rfl,rfl⟩
  |false=>go_enter Tryz.func197,Tryz.ntmps197;go_wp2;go_ret;exact⟨rfl,rfl⟩
def R9(L:List Nat)(a:Nat)(l:List Nat):List Nat:=L.take a++l++L.drop (a+l.length)
theorem A9q{L l:List Nat}{a:Nat}(h:a+l.length<=L.length):(R9 L a l).length=L.length:=by
 simp only[R9,List.length_append,List.length_take,List.length_drop];omega
theorem B5F{L l:List Nat}{a y:Nat}(h:a+1+l.length<=L.length):(R9 L (a+1) l).set a y=R9 L a (y::l):=by
 have I:a<L.length:=by omega
 simp only[R9]
 rw[List.take_succ_eq_append_getElem I,List.append_assoc,List.append_assoc,List.set_append_right _ _ (by rw[List.length_take];omega),List.length_take,Nat.min_eq_left (by omega),Nat.sub_self]
 simp only[List.length_cons,List.nil_append,List.set_cons_zero,List.cons_append,List.append_assoc]
 rw[show a+1+l.length=a+(l.length+1)by omega]
theorem B4h:∀k x,be (k+1) x=(x/256^k%256)::be k x
 |0,x=>by simp[be]
 |k+1,x=>by
  rw[be,B4h k (x/256),be]
  simp only[List.cons_append,Nat.div_div_eq_div_mul]
  rw[Nat.mul_comm 256,<-Nat.pow_succ]
def C4e(w:World)(F:Nat->Prop)(g o N n c:Nat)(L:List Nat)(x:Nat)(t1 t7:Value)(wr:World):Prop:=
 ∃k,k<=n/\t1= .int .u64 ((x/256^k:Nat):Int)/\t7= .int .i64 (k:Int)/\Sl wr F 5 1 (.slice (some ⟨g,0,none⟩) N c) N ((R9 L (o+(n-k)) (be k x)).map u8)/\B0 F w F wr
theorem A6u(F:Nat->Prop)(g o N n c c2:Nat)(L:List Nat)(x:Nat)(w:World)(h:Sl w F 5 1 (.slice (some ⟨g,0,none⟩) N c) N (L.map u8))(aE:o+n<=N)(hN:N<=1000)(hx:x<18446744073709551616)(hn:0<n):
 Calls Tryz.prog 212 #[.slice (some ⟨g,o,none⟩) n c2,.int .u64 (x:Int)] w λe w'=>e= .returned (.tuple #[])/\Sl w' F 5 1 (.slice (some ⟨g,0,none⟩) N c) N ((R9 L o (be n x)).map u8)/\B0 F w F w':=by
 have hl:L.length=N:=by have:=h.own.1;simpa using this
 have H:=C6x h
 have Y:=C6x hl
 have aF:(x:Int)<18446744073709551616:=by omega
 have aD:n<=1000:=by omega
 clear h hl
 go_enter Tryz.func212,Tryz.ntmps212
 go_wp2_with fail
 go_loopw [1,7] (C4e w F g o N n c L x) (λ_ t _=>n-(intOf t).toNat)
 case atStart=>exact⟨0,Nat.zero_le _,by simp,rfl,by simpa[R9,be]using H.out,B0.refl _ _⟩
 case round=>
  obtain⟨k,hk,rfl,rfl,I,J⟩:=hrel
  have hF:=I.inF g rfl
  by_cases aC:k<n
  ·have aI:=I.own.frozenAt (o+(n-1-k))
   have aA:(R9 L (o+(n-k)) (be k x)).length=N:=by rw[A9q (by rw[C7,Y.out];omega),Y.out]
   have U:o+(n-1-k)=o+(n-(k+1)):=by omega
   obtain⟨z,aH⟩:∃z,wr.cell? ⟨g,o+(n-1-k),none⟩=some z:=⟨_,I.at8 (k:=o+(n-1-k)) (by omega) (by rw[aA];omega)⟩
   have V:=I.set8 (o+(n-1-k)) (x/256^k%256) ((x/256^k:Nat)%256:Int) (by omega)
   rw[U,show o+(n-k)=o+(n-(k+1))+1 by omega,B5F (by rw[C7,Y.out];omega),<-B4h,<-U]at V
   obtain⟨y,W⟩:∃y,y=x/256^k:=⟨_,rfl⟩
   have aB:x/256^(k+1)=y/256:=by rw[W,Nat.pow_succ,Nat.div_div_eq_div_mul]
   have aG:y<=x:=by rw[W];exact Nat.div_le_self _ _
   rw[<-W]at V⊢
   have HS:=C6x V
   have X:=C6x (J.setCell (p:=⟨g,o+(n-1-k),none⟩) (.inl hF) (.int .u8 ((y:Nat)%256:Int)))
   have HJ:=C6x U
   have HY:=C6x aB
   have aJ:(0:Int)<=(n:Int)-1-(k:Int):=by omega
   have aK:(n:Int)-1-(k:Int)<(n:Int):=by omega
   have aM:y<18446744073709551616:=by omega
   have aL:(n:Int)<=1000:=by omega
   clear I J V U aB W aA aG hx aF aD aE hN
   go_wp2_with fail
   refine⟨⟨k+1,by omega,by rw[HY.out];go_num,by go_num,?_,X.out⟩,by simp[intOf];omega⟩
   rw[<-HJ.out]
   exact HS.out
  ·obtain rfl:k=n:=by omega
   have Z:=I
   rw[Nat.sub_self,Nat.add_zero]at Z
   have H1:=C6x Z
   have X:=C6x J
   clear Z I J aC hk
   go_wp2
   go_end0
   exact⟨rfl,H1.out,X.out⟩
theorem A7V{l:List Nat}{k:Nat}(h:k<l.length):R8 (l.take (k+1))=R8 (l.take k) * 256+l[k]:=by
 rw[List.take_succ_eq_append_getElem h,A1m]
theorem B0B{l:List Nat}{k:Nat}(X:k<l.length)(W:l.length<=8)(I:∀x∈l,x<256):R8 (l.take k)<72057594037927936:=by
 have U:=A3x k (l.take k) (by simp;omega) (λx J=>I x (List.mem_of_mem_take J))
 have V:=Nat.pow_le_pow_right (n:=256) (by decide) (show k<=7 by omega)
 have e:256^7=72057594037927936:=by decide
 omega
theorem B5G(x b:Nat)(U:x<72057594037927936)(J:b<256):bits .or .u64 ((x:Int) * 256) (b:Int)=((x * 256+b:Nat):Int):=by
 have I:=u64_or_nat (x * 256) b (by omega) (by omega)
 rw[Go.nat_join 8 _ _ (by omega) (by omega)]at I
 exact I
def C2z(l:List Nat)(t3 t8:Value):Prop:=∃k:Nat,k<=l.length/\t8= .int .i64 (k:Int)/\t3= .int .u64 ((R8 (l.take k):Nat):Int)
theorem A3z(v:Value)(n:Nat)(l:List Nat)(w:World)(h:Rd w 1 v n (l.map u8))(hn:n<=8)(Z:∀x∈l,x<256):
 Calls Tryz.prog 156 #[v] w λe w'=>e= .returned (.int .u64 ((R8 l:Nat):Int))/\w=w':=by
 obtain⟨A,c,rfl,_,_⟩:=h.form
 have aA:l.length=n:=by obtain⟨_,_,_,_,_,h,_⟩:=h;simpa using h
 have aD:(n:Int)<=8:=by omega
 have H:=C6x h
 have W:=C6x Z
 have J:=C6x aA
 have HN:=C6x hn
 clear h Z aA hn
 go_enter Tryz.func156,Tryz.ntmps156
 go_wp2_with fail
 go_loop [3,8] (C2z l) (λ_ t=>n-(intOf t).toNat)
 case atStart=>exact⟨0,Nat.zero_le _,rfl,rfl⟩
 case round=>
  obtain⟨k,Y,rfl,rfl⟩:=hrel
  rw[J.out]at Y
  by_cases aC:k<n
  ·obtain⟨b,o,rfl,_,X⟩:=H.out.cells (by omega) (by decide)
   have I:k<l.length:=by have:=J.out;omega
   have c1:w.cell? ⟨b,o+k,none⟩=some (.int .u8 (l[k]:Int)):=X k _ (by rw[List.getElem?_map,List.getElem?_eq_getElem I];rfl)
   have V:=W.out _ (List.getElem_mem I)
   have hv:=B0B I (by have:=J.out;have:=HN.out;omega) W.out
   have U:=A7V I
   obtain⟨x,hx⟩:∃x,x=l[k]:=⟨_,rfl⟩
   obtain⟨y,hy⟩:∃y,y=R8 (l.take k):=⟨_,rfl⟩
   rw[<-hx]at c1 V U
   rw[<-hy]at hv U⊢
   have hj:=B5G y x hv V
   have aE:(y:Int)<72057594037927936:=by omega
   have aF:(x:Int)<256:=by omega
   rw[<-U]at hj
   have aB:=C6x I
   clear X hx hy I hv U V
   go_wp2
   go_round
   case rel=>exact⟨k+1,aB.out,by go_num,rfl⟩
   case measure=>simp[intOf];omega
  ·obtain rfl:k=n:=by omega
   have e:l.take k=l:=List.take_of_length_le (by have:=J.out;omega)
   rw[e]
   clear e aC Y
   go_wp2
   go_ret
   exact⟨rfl,rfl⟩
end
section
open Go.RowKit
end
section
open Go.RowKit
theorem B5H(z:Value)(U:z.cells= #[z])(n:Nat):(madeCells z.cells (n * 1)).toList=List.replicate n z:=by
 rw[U,Nat.mul_one]
 apply List.ext_getElem?
 intro k
 rw[List.getElem?_replicate]
 by_cases I:k<n
 ·rw[if_pos I,Array.getElem?_toList]
  have J:(Array.range n)[k]? =some k:=by rw[Array.getElem?_eq_getElem (by simpa using I)];simp
  simp only[madeCells,Array.getElem?_map,J,Option.map_some]
  have:k%(#[z]:Array Value).size=0:=by simp[Nat.mod_one]
  rw[this];rfl
 ·rw[if_neg I,Array.getElem?_toList,Array.getElem?_eq_none (by rw[size_madeCells];omega)]
theorem L7(b:Nat){k:Nat}(I:k≠b):∀(J:List Value) (o:Nat) (w:World),(w.setCells b o J).heap[k]? =w.heap[k]?
 |[],_,_=>rfl
 |v::r,o,w=>by
  rw[World.setCells,L7 b I r]
  exact heap_setCell_other w ⟨b,o,none⟩ k v I
theorem B0.lsetCells{F F':Nat->Prop}{w:World}{g:Nat}:∀(I:List Value) (o:Nat) (w':World),B0 F w F' w'->(F g\/w.heap.size<=g)->B0 F w F' (w'.setCells g o I)
 |[],_,_,h,_=>h
 |v::r,o,w',h,hg=>by
  rw[World.setCells]
  exact B0.lsetCells r (o+1) _ (h.setCell (p:=⟨g,o,none⟩) hg v) hg
theorem A4H{P:Program}{w:World}{ops:Array Oper}{o:Oper}{a:Act}{K:Act->World->Prop}{Q:Exit->Act->World->Prop}{E:Prop}(aB:o.guard=none)(d s:Operand)(V sT:TypeId)
 (ho:o.op= .call { callee:=.builtin .copy,args:= #[d,s],argTypes:= #[V,sT] }) (W:TypeId) (hu:P.underlying V=some (.slice W)) (aE:(P.info? W).map (·.size)=some 1)
 (b I U Z Y aA:Nat) (J:Addr) (hd:a.eval d= .slice (some ⟨b,I,none⟩) U Z) (hs:a.eval s= .slice (some J) Y aA)
 (cs:List Value) (hn:cs.length=Nat.min Y U) (aD:∀j v,cs[j]? =some v->w.cell? (J.add j)=some v) (ht:w.there b I cs.length) (h1:∀v∈cs,v.oneCell'=true)
 (h:K (a.put o.dst (goInt cs.length)) (w.setCells b I cs)):
 if Region.wanted o (yielded ops a.tmps)=true then Oper.wp P o a w K Q else E:=by
 have hw:Region.wanted o (yielded ops a.tmps)=true:=by simp[Region.wanted,aB]
 rw[if_pos hw]
 have aC:=run_copy_cells (P:=P) w V sT o.type W b I U Z J Y aA cs hu aE hn aD (λj X=>(ht j X).1) (λj X=>(ht j X).2) h1
 unfold Oper.wp
 simp[execOp,ho,resolve,invoke,builtin,hd,hs,aC,Result.andThen]
 exact h
theorem B74:(Tryz.prog.info? 5).map (·.size)=some 1:=by kernel_rfl
theorem Rd.front{w:World}{A:Option Addr}{m n c:Nat}{l:List Nat}(h:Rd w 1 (.slice A m c) m (l.map u8))(hn:n<=m):Rd w 1 (.slice A n c) n ((l.take n).map u8):=by
 obtain⟨A',c',e,h1,U,h3,V,W⟩:=h
 injection e with e1 _ e3
 subst e1 e3
 simp at h3
 refine⟨A,c,rfl,by omega,U,by simp;omega,V,λZ=>?_⟩
 obtain⟨J,rfl,X,Y⟩:=W (by omega)
 refine⟨J,rfl,X,λj u I=>Y j u ?_⟩
 rw[List.map_take,List.getElem?_take]at I
 split at I
 ·exact I
 ·cases I
theorem S8(v:Value)(n:Nat)(xs:List Value)(w:World)(hv:Rd w 1 v n xs)(Z:∀u∈xs,u.oneCell'=true)(hl:n<=1000000000):
 Calls Tryz.prog 193 #[v] w λe w'=>∃J F',e= .returned J/\Sl w' F' 5 1 J n xs/\B0 B5 w F' w':=by
 obtain⟨A,c,rfl,aD,aB,V,W,U⟩:=hv
 obtain⟨i0,hi,aH,aI,aJ⟩:=info_parts Tryz.infoU8
 rcases A with _|a
 ·obtain rfl:c=0:=W rfl
  obtain rfl:n=0:=by omega
  obtain rfl:xs=[]:=List.eq_nil_of_length_eq_zero (by simpa using V)
  have he:=λY=>Lib.run_eql_slice_nil (P:=Tryz.prog) Y 54 5 none 0 0 0 0 Tryz.underlying54
  clear aD aB V W U Z
  go_enter Tryz.func193,Tryz.ntmps193
  go_wp2
  go_ret
  exact⟨_,_,rfl,Sl.nil _ _ _,B0.refl _ _⟩
 ·have he:=λY=>Lib.run_eql_slice_nil (P:=Tryz.prog) Y 54 5 (some a) n c 0 0 Tryz.underlying54
  have aA:∀j u,xs[j]? =some u->(w.alloc (.cells #[] 5)).cell? (a.add j)=some u:=by
   intro j u hu
   have hj:j<xs.length:=(List.getElem?_eq_some_iff.1 hu).1
   obtain⟨ad,e,X,hc⟩:=U (by omega)
   injection e with e
   subst e
   rw[World.cell?_of_block (w:=w) (by rw[A01];exact Below.heap_alloc _ _ _ X)]
   exact hc j u hu
  have aG:(w.alloc (.cells #[] 5)).ownsRow w.heap.size 5 1 (.slice (some ⟨w.heap.size,0,none⟩) 0 0) 0 []:=World.ownsRow_made w #[] 0 (Nat.le_refl _) (Nat.zero_le _) rfl
  have HR:=C6x U
  have HC:=C6x aA
  have HL:=C6x V
  clear U aA W V aD aB
  go_enter Tryz.func193,Tryz.ntmps193
  go_wp2_with (first
   |(at_builtin;refine wpList_append_own_at _ rfl (.tmp 5) (.tmp 6) 54 rfl w.heap.size 5 i0 (.int .u8 0) 1 1 Tryz.underlying54 hi aH aI aJ rfl (by decide) (.slice (some ⟨w.heap.size,0,none⟩) 0 0) 0 [] rfl aG a n c xs rfl HL.out HC.out Z ?c3 ?c4 (by simp) ?c5)
   |fail)
  case c3=>unfold maxLen;omega
  case c4=>omega
  case c5=>
   intro J w1 aE aF _ aK
   go_wp2
   go_ret
   have X:Below w.heap.size w w1:=((Below.refl w.heap.size w).alloc (Nat.le_refl _) _).grown aF (by simp) (λk I=>by simp[Value.ownBlock]at I;omega)
   have aC:=aE.lt
   exact⟨J,(λk=>J.ownBlock=some k),rfl,⟨A07 aE,λk I=>I,λk I=>(aC k I).2⟩,B0.new_ X (λk I=>(aC k I).1)⟩
theorem Rd.up{w:World}{v:Value}{n:Nat}{xs:List Value}(h:Rd w 1 v n xs)(o:Obj):Rd (w.alloc o) 1 v n xs:=h.far (λ_ _ _ I=>Below.heap_alloc _ _ _ I) (by simp)
end
end Go.Proofs.YtbefmjiclpobjaaGreat
