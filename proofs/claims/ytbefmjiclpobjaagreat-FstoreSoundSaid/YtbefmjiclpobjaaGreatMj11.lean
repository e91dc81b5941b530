import Derived.Test.YtbefmjiclpobjaaGreatMj10
import Derived.Test.YtbefmjiclpobjaaGreatMj03
import Derived.DeepKeys
import Derived.Lib.AppendZerosOnto
import Derived.Deep.QuietTactic
import Derived.BigQuiet
import Derived.Deep.RegionHeld3
import Derived.Deep.RegionWith
import Derived.Deep.DeepCutAuto
import Derived.Deep.MidRow
namespace Go.Proofs.YtbefmjiclpobjaaGreat
set_option maxHeartbeats 3200000
set_option maxRecDepth 3000
section
open Go.ChangeShapes Go.WideShapes Go.ChangeAt Go.RowKit
structure C11 (w:World) (y:Nat) (x:L6):Prop where
 all:w.cell? ⟨y,0,none⟩=some (.int .i64 x.k)/\w.cell? ⟨y,1,none⟩=some (.int .i64 x.g)/\w.cell? ⟨y,2,none⟩=some (.int .u64 (x.v:Int))/\w.cell? ⟨y,3,none⟩=some (.int .i64 (x.a 0))/\w.cell? ⟨y,4,none⟩=some (.int .i64 (x.a 1))/\w.cell? ⟨y,5,none⟩=some (.int .i64 (x.a 2))/\w.cell? ⟨y,6,none⟩=some (.int .i64 (x.a 3))/\w.cell? ⟨y,7,none⟩=some (.int .i64 (x.a 4))/\w.cell? ⟨y,8,none⟩=some (.int .i64 (x.a 5))/\w.cell? ⟨y,9,none⟩=some (.int .i64 (x.a 6))/\w.cell? ⟨y,10,none⟩=some (.int .i64 (x.a 7))
theorem C3.c11{w:World}{y:Nat}{t:TypeId}{x:L6}(h:C3 w y t (ic x)):C11 w y x:=
 ⟨h.cell 0,h.cell 1,h.cell 2,h.cell 3,h.cell 4,h.cell 5,h.cell 6,h.cell 7,h.cell 8,h.cell 9,h.cell 10⟩
theorem D5(x:L6):(ic x).all (·.oneCell')=true:=by simp[ic,Value.oneCell']
theorem C2(x:L6):(ic x).size=11:=rfl
theorem C0:(Tryz.prog.info? 62).map (·.size)=some 11:=by kernel_rfl
def arr(a:Nat->Int):Array Value:= #[.int .i64 (a 0),.int .i64 (a 1),.int .i64 (a 2),.int .i64 (a 3),.int .i64 (a 4),.int .i64 (a 5),.int .i64 (a 6),.int .i64 (a 7)]
def A9E(a:Nat->Int):List Lit:=[.int .i64 (a 0),.int .i64 (a 1),.int .i64 (a 2),.int .i64 (a 3),.int .i64 (a 4),.int .i64 (a 5),.int .i64 (a 6),.int .i64 (a 7)]
theorem C2J:Tryz.prog.cellsOf 60=8:=by kernel_rfl
theorem B6w:Tryz.prog.cellsOf 3=1:=by kernel_rfl
theorem C0H(d:Nat)(z:Int)(h:(Lit.int .i64 z).wf=true):Tryz.prog.keyLits (d+1) 3 [.int .i64 z]=some [.int .i64 z]:=by
 unfold Program.keyLits
 rw[Tryz.underlying3]
 simp[h]
theorem C2K{z:Int}(h: -9223372036854775808<=z/\z<9223372036854775808):(Lit.int .i64 z).wf=true:=by
 simp[Lit.wf,IntKind.min,IntKind.max,IntKind.signed,IntKind.bits];omega
def WfA(a:Nat->Int):Prop:=∀j,j<8-> -9223372036854775808<=a j/\a j<9223372036854775808
theorem B4B(a:Nat->Int)(h:WfA a):Tryz.prog.keyLits 5 60 (arr a).toList=some (A9E a):=by
 have k:=λj I=>C0H 3 (a j) (C2K (h j I))
 unfold Program.keyLits
 rw[Tryz.underlying60]
 simp only[C2J,B6w,arr,A9E,List.length_cons,List.length_nil,if_true,List.range,List.range.loop,List.mapM_cons,List.mapM_nil,List.drop,List.take,Nat.mul_one]
 simp[k 0 (by decide),k 1 (by decide),k 2 (by decide),k 3 (by decide),k 4 (by decide),k 5 (by decide),k 6 (by decide),k 7 (by decide)]
theorem C2L(a b:Nat->Int)(X:WfA a)(Y:WfA b):∃c:Bool,(c=true↔a 0=b 0/\a 1=b 1/\a 2=b 2/\a 3=b 3/\a 4=b 4/\a 5=b 5/\a 6=b 6/\a 7=b 7)/\∀w,(Op.equalIn 9999 60 (.agg (arr a)) (.agg (arr b))).run Tryz.prog w= .ok c w:=by
 have W:=run_equalIn_deep (P:=Tryz.prog) 9997 2 60 (by kernel_rfl)
 have U:∀w,∃r:Bool,(Op.equalIn 9999 60 (.agg (arr a)) (.agg (arr b))).run Tryz.prog w= .ok r w/\(r=true↔A9E a=A9E b):=λw=>W w 5 5 (.agg (arr a)) (.agg (arr b)) _ _ rfl rfl (B4B a X) (B4B b Y)
 have e:A9E a=A9E b↔a 0=b 0/\a 1=b 1/\a 2=b 2/\a 3=b 3/\a 4=b 4/\a 5=b 5/\a 6=b 6/\a 7=b 7:=by simp[A9E]
 by_cases h:A9E a=A9E b
 ·refine⟨true,by simp[<-e,h],λw=>?_⟩
  obtain⟨r,I,J⟩:=U w
  rw[I,J.mpr h]
 ·refine⟨false,by simp[<-e,h],λw=>?_⟩
  obtain⟨r,I,J⟩:=U w
  rw[I]
  cases r
  ·rfl
  ·exact absurd (J.mp rfl) h
theorem B8x{g:Int}{v:Nat}{a:Nat->Int}:A1U ⟨0,g,v,a⟩↔v=0/\a 0=0/\a 1=0/\a 2=0/\a 3=0/\a 4=0/\a 5=0/\a 6=0/\a 7=0:=by
 unfold A1U A89
 rw[if_pos rfl]
 constructor
 ·rintro⟨h,k⟩
  exact⟨h,k 0 (by decide),k 1 (by decide),k 2 (by decide),k 3 (by decide),k 4 (by decide),k 5 (by decide),k 6 (by decide),k 7 (by decide)⟩
 ·rintro⟨h,J,U,W,X,Y,Z,k6,k7⟩
  refine⟨h,λj I=>?_⟩
  match j,I with
  |0,_=>exact J
  |1,_=>exact U
  |2,_=>exact W
  |3,_=>exact X
  |4,_=>exact Y
  |5,_=>exact Z
  |6,_=>exact k6
  |7,_=>exact k7
theorem B8y{k g:Int}{v:Nat}{a:Nat->Int}(h:k≠0):A1U ⟨k,g,v,a⟩↔k=1\/k=2:=by
 unfold A1U
 rw[if_neg h]
theorem B1l(x:L6)(hx:WfI x)(w:World):Calls Tryz.prog 132 #[.agg (ic x)] w λe w'=>e= .returned (.bool (decide (A1U x)))/\B0 B5 w B5 w':=by
 obtain⟨y,hy⟩:∃y,y=w.heap.size:=⟨_,rfl⟩
 obtain⟨V,X⟩:∃V,V=w.alloc (.cells (ic x) 62):=⟨_,rfl⟩
 have HY:=C6x (show C3 V y 62 (ic x)by rw[X,hy];exact C3.new _ _ _)
 have I:=C6x (show B0 B5 w B5 V by rw[X];exact(B0.refl _ _).alloc _)
 obtain⟨s0,s1,s2,s3,s4,s5,s6,s7,s8,s9,aB⟩:=HY.out.c11.all
 have HV:=C6x X
 have aA:=C6x hy
 have WA:=C6x (show WfA x.a from hx.a)
 clear hx
 obtain⟨B,hB⟩:∃B,B=decide (A1U x):=⟨_,rfl⟩
 rw[<-hB]
 have J:=C6x hB
 clear X hy hB
 obtain⟨k,g,v,a⟩:=x
 simp only[ic]at HV⊢
 simp only at s0 s1 s2 s3 s4 s5 s6 s7 s8 s9 aB
 go_enter Tryz.func132,Tryz.ntmps132
 go_upto_region 1 with(fail)
 rw[<-HV.out,<-aA.out]
 by_cases hk:k=0
 ·subst hk
  obtain⟨c,W,hE⟩:=C2L a (λ_=>0) WA.out (λ_ _=>⟨show(-9223372036854775808:Int)<=0 by decide,show(0:Int)<9223372036854775808 by decide⟩)
  simp only[arr]at hE
  by_cases U:v=0/\c=true
  ·obtain⟨rfl,rfl⟩:=U
   obtain rfl:B=true:=J.out.trans (decide_eq_true (B8x.mpr ⟨rfl,W.mp rfl⟩))
   clear W
   go_wp2_with fail
   go_ret
   exact⟨rfl,I.out⟩
  ·have hn:B=false:=J.out.trans (decide_eq_false (λo=>U ⟨(B8x.mp o).1,W.mpr (B8x.mp o).2⟩))
   subst hn
   cases c with
   |false=>
    clear W U
    go_wp2_with fail
    all_goals
     go_ret
     exact⟨rfl,I.out⟩
   |true=>
    have hv:¬v=0:=λo=>U ⟨o,rfl⟩
    clear W U
    go_wp2_with fail
    all_goals
     go_ret
     exact⟨rfl,I.out⟩
 ·have Y:=C6x hk
  by_cases Z:k=1
  ·subst Z
   go_wp2_with fail
   go_ret
   exact⟨congrArg (λb=>Ending.returned (.bool b)) (J.out.trans (decide_eq_true ((B8y Y.out).mpr (.inl rfl)))).symm,I.out⟩
  by_cases h2:k=2
  ·subst h2
   go_wp2_with fail
   go_ret
   exact⟨congrArg (λb=>Ending.returned (.bool b)) (J.out.trans (decide_eq_true ((B8y Y.out).mpr (.inr rfl)))).symm,I.out⟩
  ·obtain rfl:B=false:=J.out.trans (decide_eq_false (λo=>((B8y Y.out).mp o).elim Z h2))
   have e1:(k==1)=false:=by simp[Z]
   have e2:(k==2)=false:=by simp[h2]
   go_wp2_with fail
   go_ret
   exact⟨by first|rfl|simp[e1,e2],I.out⟩
end
section
open Go.RowKit
def WrP(w:World)(F:Nat->Prop)(b:Nat)(ok:Prop)(N m:Nat):Prop:=(ok/\WSt w F b N m/\Bd F w)\/(¬ok/\B5R w F b)
structure WP (V:World) (F:Nat->Prop) (b:Nat) (ok:Prop) (N m:Nat) (w:World):Prop where
 ws:WrP w F b ok N m
 ad:B0 B5 V F w
section
variable {V w:World} {F:Nat->Prop} {b N m:Nat} {ok:Prop}
theorem WP.new(U:B0 B5 V B5 w):Calls Tryz.prog 133 #[] w λe w'=>∃b F,e= .returned (.pointer (some ⟨b,0,none⟩))/\WP V F b True 0 0 w':=by
 refine(A5W w).mono ?_
 rintro e w' ⟨b,F,rfl,I,J,h3⟩
 exact⟨b,F,rfl,.inl ⟨trivial,I,h3⟩,U.trans J⟩
theorem WP.put(h:WP V F b ok N m w)(x n:Nat)(Y:n<=64)(hx:x<18446744073709551616)(Z:m+n<=1000000000):
 Calls Tryz.prog 134 #[.pointer (some ⟨b,0,none⟩),.int .u64 (x:Int),.int .i64 (n:Int)] w λe w'=>∃F',e= .returned (.pointer (some ⟨b,0,none⟩))/\WP V F' b (ok/\x<2^n) (N * 2^n+x) (m+n) w':=by
 rcases h.ws with⟨U,I,h3⟩|⟨U,I⟩
 ·by_cases J:x<2^n
  ·refine(A9u b N m x n F w I h3 Y J Z).mono ?_
   rintro e w' ⟨rfl,F',W,X,k3⟩
   exact⟨F',rfl,.inl ⟨⟨U,J⟩,W,k3⟩,h.ad.trans X⟩
  ·refine(B4m b N m x n F w I h3 hx (.inr (.inr ⟨n,rfl,Y,Nat.le_of_not_lt J⟩))).mono ?_
   rintro e w' ⟨rfl,W,X⟩
   exact⟨F,rfl,.inr ⟨λh=>J h.2,W⟩,h.ad.trans X⟩
 ·refine(B4n b x n F w I).mono ?_
  rintro e w' ⟨rfl,rfl⟩
  exact⟨F,rfl,.inr ⟨λh=>U h.1,I⟩,h.ad⟩
theorem WP.done_[Decidable ok](h:WP V F b ok N m w)(X:m<=1000000000):
 Calls Tryz.prog 135 #[.pointer (some ⟨b,0,none⟩)] w λe w'=>∃A n k F',e= .returned (.tuple #[.slice A n k,.int .i64 (if ok then 0 else 2)])/\(ok->n=qn m/\Sl w' F' 5 1 (.slice A n k) n ((V1 N m).map u8))/\B0 B5 V F' w':=by
 rcases h.ws with⟨I,J,h3⟩|⟨I,J⟩
 ·refine(A5X b N m F w J X).mono ?_
  rintro e w' ⟨v,F',rfl,W,U⟩
  obtain⟨A,k,rfl,_⟩:=W.form0
  exact⟨A,_,k,F',by rw[if_pos I],λ_=>⟨rfl,W⟩,(h.ad.sub (λ_ x=>x.elim)).trans U⟩
 ·refine(B0K b F w J).mono ?_
  rintro e w' ⟨rfl,U⟩
  exact⟨none,0,0,B5,by rw[if_neg I],λh=>absurd h I,(h.ad.sub (λ_ x=>x.elim)).trans U⟩
end
theorem A6X(m:Nat):(Builtin.zeroCells (#[.int .u8 0]:Array Value) m).toList=List.replicate m (u8 0):=by
 apply List.ext_getElem
 ·simp[Builtin.zeroCells]
 ·intro j I J
  simp[Builtin.zeroCells,Nat.mod_one,u8]
theorem B3m(m:Nat):(Builtin.zeroCells (#[.int .u8 0]:Array Value) m).size=m:=by simp[Builtin.zeroCells]
theorem A6Y(x:Int):(Value.int .u8 x).cells= #[.int .u8 x]:=rfl
theorem A3B{w:World}{ty:TypeId}{g I n m:Nat}{J:List Value}(aD:w.ownsRow 0 5 1 (.slice (some ⟨g,0,none⟩) n I) n J)(hm:0<m)(hn:n+m<=1000000000):
 ∃Y w',(Builtin.append_ #[54,3] ty #[.slice (some ⟨g,0,none⟩) n I,.int .i64 (m:Int)]).run Tryz.prog w= .ok Y w'/\w'.ownsRow 0 5 1 Y (n+m) (J++List.replicate m (u8 0))/\w.grownBy w' (some g)/\(Y.ownBlock=some g\/Y.ownBlock=some w.heap.size):=by
 obtain⟨i,hi,aI,aA,aB⟩:=info_parts Tryz.infoU8
 have ht:=Tryz.underlying54
 have aH:=Tryz.underlying3
 have aK:∀j u,J[j]? =some u->w.cell? ((⟨g,0,none⟩:Addr).add j)=some u:=aD.cells (g:=g) rfl
 obtain⟨X,hh⟩:=aD
 rcases hh with⟨h,_⟩|⟨g',aR,U,e,aS,hg,aT,aL,aC,aG⟩
 ·cases h
 ·injection e with e1 e2 e3
  injection e1 with e1
  injection e1 with e1
  subst e1
  subst e3
  rw[Nat.mul_one]at aC X aG
  have W:(J++List.replicate m (u8 0)).length=(n+m) * 1:=by simp[X]
  have hw:IntKind.i64.wrap (m:Int)=m:=by rw[IntKind.wrap_i64];omega
  have aO:m≠0:=by omega
  have aP:¬((m:Int)<0):=by omega
  have aJ:¬(281474976710656<(m:Int)):=by omega
  by_cases aE:n+m<=I
  ·have aF:=run_storeCells_at Tryz.prog g n 5 (List.replicate m (u8 0)) 0 U w hg (by rw[List.length_replicate,aC];omega) (by intro u hu;rw[(List.mem_replicate.1 hu).2];rfl)
   simp only[Nat.add_zero]at aF
   have hr:(Builtin.append_ #[54,3] ty #[.slice (some ⟨g,0,none⟩) n I,.int .i64 (m:Int)]).run Tryz.prog w= .ok (.slice (some ⟨g,0,none⟩) (n+m) I) (w.setRow g (U.toList.take n++List.replicate m (u8 0)++U.toList.drop (n+(List.replicate m (u8 0)).length)).toArray):=by
    simp[Builtin.append_,run_underlying ht,run_underlying aH,sizeOf,typeInfo,zeroValue,hi,aI,aA,aB,asInt,asIntOf,hw,aE,aP,aO,aJ,Addr.add_lit,A6Y,A6X]
    have h2:=aF
    simp at h2
    rw[h2]
    rfl
   refine⟨_,_,hr,⟨W,.inr ⟨g,I,_,rfl,Nat.zero_le _,setRow_heap w g U _ _ _ hg,aE,aL,?_,?_⟩⟩,⟨rfl,rfl,rfl,by simp,λk _ Z=>setRow_other w g k _ (λe=>Z (by rw[e]))⟩,.inl rfl⟩
   ·simp only[List.size_toArray,List.length_append,List.length_take,List.length_drop,Array.length_toList,List.length_replicate,Nat.mul_one]
    omega
   ·rw[aG,<-W]
    exact List.take_left
  ·have aQ:(Builtin.firstCells i.size n (.slice (some ⟨g,0,none⟩) n I)).run Tryz.prog w.drew= .ok J.toArray w.drew:=run_firstCells_some w.drew i.size n ⟨g,0,none⟩ n I J (by rw[aA,Nat.mul_one];exact X) (λj u hu=>aK j u hu)
   have hr:=Lib.run_append_grow_zeros (P:=Tryz.prog) w 54 3 ty 5 i (.int .u8 0) .i64 .i64 ht aH hi aI (some ⟨g,0,none⟩) n I J aQ m hm (by rw[aA];decide) (by omega) (by omega) (by rw[aB];omega) (growslice_fits (by omega) (by rw[aB];omega))
   have aN:=grownCap_ge w (n+m) I 5
   have aM:grownCap w (n+m) I 5<=maxLen:=grownCap_le_maxLen w (n+m) I 5 (by unfold maxLen;omega)
   refine⟨_,_,hr,⟨W,.inr ⟨w.heap.size,_,_,rfl,Nat.zero_le _,heap_alloc_new w.drew _,aN,aM,?_,?_⟩⟩,⟨rfl,rfl,rfl,by simp,λk Z _=>Below.heap_alloc w.drew _ _ Z⟩,.inr rfl⟩
   ·simp only[Array.size_append,List.size_toArray,A6Y,B3m,X,Nat.mul_one]
    omega
   ·simp only[Array.toList_append,A6Y,A6X,<-W]
    exact List.take_left
theorem Z6{w:World}{ops:Array Oper}{rest:List Oper}{o:Oper}{a:Act}{Q:Exit->Act->World->Prop}(Y:o.guard=none)(s x:Operand)(ho:o.op= .call { callee:=.builtin .append,args:= #[s,x],argTypes:= #[54,3] })
 {g J n m:Nat} {U:List Value} (hs:a.eval s= .slice (some ⟨g,0,none⟩) n J) (hx:a.eval x= .int .i64 (m:Int)) (aA:w.ownsRow 0 5 1 (.slice (some ⟨g,0,none⟩) n J) n U) (Z:0<m) (hn:n+m<=1000000000)
 (h:∀I w',w'.ownsRow 0 5 1 I (n+m) (U++List.replicate m (u8 0))->w.grownBy w' (some g)->(I.ownBlock=some g\/I.ownBlock=some w.heap.size)->wpList Tryz.prog ops Q rest (a.put o.dst I) w'):wpList Tryz.prog ops Q (o::rest) a w:=by
 refine wpList_plain Y λK hK=>?_
 obtain⟨I,w',hr,W,h3,X⟩:=A3B (ty:=o.type) aA Z hn
 unfold Oper.wp execOp
 simp only[ho,resolve,invoke,builtin,Sem.run_bind,Sem.run_pure,Result.andThen_ok,List.map_toArray,List.map_cons,List.map_nil,hs,hx,hr]
 exact hK _ _ (h I w' W h3 X)
end
section
open Go.ChangeShapes Go.WideShapes Go.ChangeAt Go.RowKit
def B1m(w:World)(x:L6)(e:Ending)(w':World):Prop:=
 ∃A m k F,e= .returned (.tuple #[.slice A m k,.int .i64 (if okI x then 0 else 2)])/\B0 B5 w F w'/\(okI x->m=128/\Sl w' F 5 1 (.slice A 128 k) 128 ((secI x).map u8))/\(¬okI x->A=none/\m=0/\k=0)
theorem B1m.no{w w':World}{x:L6}(h:¬okI x)(I:B0 B5 w B5 w'):B1m w x (.returned (.tuple #[.slice none 0 0,.int .i64 2])) w':=
 ⟨none,0,0,B5,by rw[if_neg h],I,λo=>absurd o h,λ_=>⟨rfl,rfl,rfl⟩⟩
theorem B1m.yes{w w':World}{x:L6}{F:Nat->Prop}{A:Option Addr}{k:Nat}(h:okI x)(J:Sl w' F 5 1 (.slice A 128 k) 128 ((secI x).map u8))(I:B0 B5 w F w'):B1m w x (.returned (.tuple #[.slice A 128 k,.int .i64 0])) w':=
 ⟨A,128,k,F,by rw[if_pos h],I,λ_=>⟨rfl,J⟩,λo=>absurd h o⟩
theorem C4s(a:Nat->Int)(w:World):(Instr.index 60 (.agg #[.int .i64 (a 0),.int .i64 (a 1),.int .i64 (a 2),.int .i64 (a 3),.int .i64 (a 4),.int .i64 (a 5),.int .i64 (a 6),.int .i64 (a 7)]) (.int .i64 0)).run Tryz.prog w= .ok (.int .i64 (a 0)) w:=by kernel_rfl
theorem C4t(a:Nat->Int)(w:World):(Instr.index 60 (.agg #[.int .i64 (a 0),.int .i64 (a 1),.int .i64 (a 2),.int .i64 (a 3),.int .i64 (a 4),.int .i64 (a 5),.int .i64 (a 6),.int .i64 (a 7)]) (.int .i64 1)).run Tryz.prog w= .ok (.int .i64 (a 1)) w:=by kernel_rfl
theorem C4u(a:Nat->Int)(w:World):(Instr.index 60 (.agg #[.int .i64 (a 0),.int .i64 (a 1),.int .i64 (a 2),.int .i64 (a 3),.int .i64 (a 4),.int .i64 (a 5),.int .i64 (a 6),.int .i64 (a 7)]) (.int .i64 2)).run Tryz.prog w= .ok (.int .i64 (a 2)) w:=by kernel_rfl
theorem C4v(a:Nat->Int)(w:World):(Instr.index 60 (.agg #[.int .i64 (a 0),.int .i64 (a 1),.int .i64 (a 2),.int .i64 (a 3),.int .i64 (a 4),.int .i64 (a 5),.int .i64 (a 6),.int .i64 (a 7)]) (.int .i64 3)).run Tryz.prog w= .ok (.int .i64 (a 3)) w:=by kernel_rfl
theorem C4w(a:Nat->Int)(w:World):(Instr.index 60 (.agg #[.int .i64 (a 0),.int .i64 (a 1),.int .i64 (a 2),.int .i64 (a 3),.int .i64 (a 4),.int .i64 (a 5),.int .i64 (a 6),.int .i64 (a 7)]) (.int .i64 4)).run Tryz.prog w= .ok (.int .i64 (a 4)) w:=by kernel_rfl
theorem C4x(a:Nat->Int)(w:World):(Instr.index 60 (.agg #[.int .i64 (a 0),.int .i64 (a 1),.int .i64 (a 2),.int .i64 (a 3),.int .i64 (a 4),.int .i64 (a 5),.int .i64 (a 6),.int .i64 (a 7)]) (.int .i64 5)).run Tryz.prog w= .ok (.int .i64 (a 5)) w:=by kernel_rfl
theorem C4y(a:Nat->Int)(w:World):(Instr.index 60 (.agg #[.int .i64 (a 0),.int .i64 (a 1),.int .i64 (a 2),.int .i64 (a 3),.int .i64 (a 4),.int .i64 (a 5),.int .i64 (a 6),.int .i64 (a 7)]) (.int .i64 6)).run Tryz.prog w= .ok (.int .i64 (a 6)) w:=by kernel_rfl
theorem C4z(a:Nat->Int)(w:World):(Instr.index 60 (.agg #[.int .i64 (a 0),.int .i64 (a 1),.int .i64 (a 2),.int .i64 (a 3),.int .i64 (a 4),.int .i64 (a 5),.int .i64 (a 6),.int .i64 (a 7)]) (.int .i64 7)).run Tryz.prog w= .ok (.int .i64 (a 7)) w:=by kernel_rfl
theorem A9F(a:Nat->Int)(j:Nat)(I:j<8)(w:World):(Instr.index 60 (.agg #[.int .i64 (a 0),.int .i64 (a 1),.int .i64 (a 2),.int .i64 (a 3),.int .i64 (a 4),.int .i64 (a 5),.int .i64 (a 6),.int .i64 (a 7)]) (.int .i64 (j:Int))).run Tryz.prog w= .ok (.int .i64 (a j)) w:=by
 have h:j=0\/j=1\/j=2\/j=3\/j=4\/j=5\/j=6\/j=7:=by omega
 rcases h with rfl|rfl|rfl|rfl|rfl|rfl|rfl|rfl
 ·exact C4s a w
 ·exact C4t a w
 ·exact C4u a w
 ·exact C4v a w
 ·exact C4w a w
 ·exact C4x a w
 ·exact C4y a w
 ·exact C4z a w
def C5m(V:World)(b:Nat)(x:L6)(t:Value)(wr:World):Prop:=
 ∃(j:Nat) (F:Nat->Prop),t= .int .i64 (j:Int)/\j<=8/\WP V F b (okJ x j) (nJ x j) (mJ j) wr
theorem A8b{w w2 J:World}{F:Nat->Prop}{g U n m:Nat}{I:Value}{xs W:List Value}(Y:Sl w2 F 5 1 (.slice (some ⟨g,0,none⟩) n U) n xs)(Z:B0 B5 w F w2)(aB:J.ownsRow 0 5 1 I m W)(hg:w2.grownBy J (some g))(aA:I.ownBlock=some g\/I.ownBlock=some w2.heap.size):
 Sl J (λj=>F j\/I.ownBlock=some j) 5 1 I m W/\B0 B5 w (λj=>F j\/I.ownBlock=some j) J:=by
 obtain⟨X,_,h3⟩:=A4E (v:=.slice (some ⟨g,0,none⟩) n U) Y Z aB hg aA (Nat.le_refl _)
 exact⟨X,h3⟩
theorem C0J{x:L6}{w:World}{F:Nat->Prop}{v:Value}(h:Sl w F 5 1 v (22+106) ((V1 (nJ x 8) (mJ 8)).map u8++List.replicate 106 (u8 0))):Sl w F 5 1 v 128 ((secI x).map u8):=by
 rw[<-B8u,List.map_append,List.map_replicate]
 exact h
theorem B8z{a b c d:Prop}(h:a/\b/\c/\d):a/\b/\c:=⟨h.1,h.2.1,h.2.2.1⟩
theorem A54(x:L6)(hx:WfI x)(w:World):Calls Tryz.prog 71 #[.agg (ic x)] w (B1m w x):=by
 obtain⟨y,hy⟩:∃y,y=w.heap.size:=⟨_,rfl⟩
 obtain⟨V,hV⟩:∃V,V=w.alloc (.cells (ic x) 62):=⟨_,rfl⟩
 have HY:=C6x (show C3 V y 62 (ic x)by rw[hV,hy];exact C3.new _ _ _)
 have HA:=C6x (show B0 B5 w B5 V by rw[hV];exact(B0.refl _ _).alloc _)
 have HV:=C6x hV
 have aQ:=C6x hy
 have HK:=C6x (B1l x hx)
 have HX:=C6x (λ(w':World) (h:B0 B5 V B5 w')=>(HY.out.keep (h.block y HY.out.lt (λh=>h))).c11.all)
 have W:=C6x (λ(F:Nat->Prop) (b:Nat) (ok:Prop) (N m:Nat) (w':World) (h:WP V F b ok N m w')=>(HY.out.keep (h.ad.block y HY.out.lt (λh=>h))).c11.all)
 have aI:=C6x hx.v
 obtain⟨s0,s1,s2,s3,s4,s5,I,J,s8,s9,aG⟩:=HY.out.c11.all
 clear hV hy hx
 obtain⟨k,g,v,a⟩:=x
 have HI:=C6x (A9F a)
 simp only[ic]at HV HK⊢
 simp only at s0 s1 s2 s3 s4 s5 I J s8 s9 aG HX W aI
 go_enter Tryz.func71,Tryz.ntmps71
 go_upto_region 1 with(fail)
 rw[<-HV.out,<-aQ.out]
 by_cases hk:A1U ⟨k,g,v,a⟩
 ·have aE:=C6x hk
  have aD:=C6x (decide_eq_true hk)
  clear hk
  go_wp2_with (first
   |(go_at_call 132;refine(HK.out _).mono ?_;rintro e w1 ⟨rfl,a1⟩;rw[aD.out];have aA:=C6x a1;clear a1)
   |fail)
  obtain⟨s0,s1,s2,s3,s4,s5,I,J,s8,s9,aG⟩:=HX.out _ aA.out.drew
  have X:=C6x (B8z (HX.out _ aA.out.drew))
  go_upto_region 3 with(fail)
  refine D6 (S:=(λw'=>w'.cell? ⟨y,0,none⟩=some (.int .i64 k)/\w'.cell? ⟨y,1,none⟩=some (.int .i64 g)/\w'.cell? ⟨y,2,none⟩=some (.int .u64 (v:Int)))) (by with_reducible first|exact K4.out|exact K3.out|exact Z.out|exact Y.out|exact X.out) (λhH=>?_)
  refine C64 1 rfl ?_
  refine C64 2 rfl ?_
  refine C64 3 rfl ?_
  refine C64 5 rfl ?_
  refine C64 6 rfl ?_
  refine C64 7 rfl ?_
  refine C64 9 rfl ?_
  refine C64 10 rfl ?_
  refine C6z 0 rfl (λK hK=>?_)
  go_simp
  refine(WP.new aA.out.drew).mono ?_
  rintro e w2 ⟨b,F1,rfl,g1⟩
  have G1:=C6x g1
  have Y:=C6x (B8z (W.out _ _ _ _ _ _ g1))
  clear g1
  go_wp2_with fail
  refine C60 hK (by with_reducible first|exact K4.out|exact K3.out|exact Z.out|exact Y.out|exact X.out) ?_
  clear hK K hH
  intro hH
  try simp only[Act.put,sA,sB,sC]
  refine C6z 4 rfl (λK hK=>?_)
  go_simp
  rw[A2T]
  refine(G1.out.put (P9 k) 2 (by decide) (A9C _) (by decide)).mono ?_
  rintro e w3 ⟨F2,rfl,g2⟩
  have G2:=C6x g2
  have Z:=C6x (B8z (W.out _ _ _ _ _ _ g2))
  clear g2
  go_wp2_with fail
  refine C60 hK (by with_reducible first|exact K4.out|exact K3.out|exact Z.out|exact Y.out|exact X.out) ?_
  clear hK K hH
  intro hH
  try simp only[Act.put,sA,sB,sC]
  refine C6z 8 rfl (λK hK=>?_)
  go_simp
  rw[A2T]
  refine(G2.out.put (P9 g) 31 (by decide) (A9C _) (by decide)).mono ?_
  rintro e w4 ⟨F3,rfl,g3⟩
  have G3:=C6x g3
  have K3:=C6x (B8z (W.out _ _ _ _ _ _ g3))
  clear g3
  go_wp2_with fail
  refine C60 hK (by with_reducible first|exact K4.out|exact K3.out|exact Z.out|exact Y.out|exact X.out) ?_
  clear hK K hH
  intro hH
  try simp only[Act.put,sA,sB,sC]
  refine C6z 11 rfl (λK hK=>?_)
  go_simp
  refine(G3.out.put v 40 (by decide) aI.out (by decide)).mono ?_
  rintro e w5 ⟨F4,rfl,g4⟩
  have G4:=C6x g4
  have K4:=C6x (B8z (W.out _ _ _ _ _ _ g4))
  clear g4
  go_wp2_with fail
  refine C60 hK (by with_reducible first|exact K4.out|exact K3.out|exact Z.out|exact Y.out|exact X.out) ?_
  clear hK K hH
  intro hH
  try simp only[Act.put,sA,sB,sC]
  refine C64 12 rfl ?_
  refine wpAnyH_done (by kernel_rfl) ?_ _
  obtain⟨s0,s1,s2,s3,s4,s5,I,J,s8,s9,aG⟩:=W.out _ _ _ _ _ _ G4.out
  have G0:=C6x (show WP V F4 b (okJ ⟨k,g,v,a⟩ 0) (nJ ⟨k,g,v,a⟩ 0) (mJ 0) w5 from G4.out)
  clear X Y Z K3 K4 G1 G2 G3 G4
  go_wp2_with fail
  go_loopw [26] (C5m V b ⟨k,g,v,a⟩) (λt _=>8-(intOf t).toNat)
  case atStart=>exact⟨0,F4,rfl,Nat.zero_le _,G0.out⟩
  case round=>
   obtain⟨j,F,rfl,hj,hG⟩:=hrel
   have HG:=C6x hG
   clear hG
   by_cases aF:j<8
   ·have aR:=HI.out j aF
    have aH:=C6x aF
    go_wp2_with (first
     |(go_at_call 134;rw[A2T];refine(HG.out.put (P9 (a j)) 12 (by decide) (A9C _) (by unfold mJ;have:=aH.out;omega)).mono ?_;rintro e w6 ⟨F6,rfl,g6⟩;have aO:=C6x g6;clear g6)
     |fail)
    exact⟨⟨j+1,F6,by simp,aH.out,aO.out⟩,by simp[intOf]<;>omega⟩
   ·obtain rfl:j=8:=by omega
    clear hj aF
    by_cases aB:okJ ⟨k,g,v,a⟩ 8
    ·have U:=C6x aB
     clear aB
     go_wp2_with (first
      |(go_at_call 135;refine(HG.out.done_ (by decide)).mono ?_;rintro e w6 ⟨A,m,c,F6,rfl,d6,a6⟩;rw[if_pos U.out];obtain⟨hm,I⟩:=d6 U.out;obtain rfl:m=22:=hm;obtain⟨g0,cc,e0,_,_⟩:=I.form (by decide);injection e0 with e1 e2 e3;subst e1;subst e3;have aP:=C6x I;have aC:=C6x a6;have aL:=I.own;clear d6 I a6 e2)
      |(at_builtin;refine Z6 rfl (.tmp 42) (.tmp 45) rfl (m:=106) rfl rfl aL (by decide) (by decide) ?c5)
      |fail)
     case c5=>
      intro v' w7 aM aK aJ
      obtain⟨J,a7⟩:=A8b aP.out aC.out aM aK aJ
      obtain⟨A7,c7,rfl,_,_⟩:=J.form0
      have s8:=C0J J
      have aN:=C6x (B1m.yes ⟨aE.out,U.out⟩ s8 (HA.out.trans a7))
      clear J a7 s8 aL aM aK aJ
      go_wp2_with fail
      exact bodyPost_ret (v:=.tuple #[.slice A7 128 c7,.int .i64 0]) (by simp[results,Tryz.results71,go_sem]) rfl aN.out
    ·have U:=C6x aB
     clear aB
     go_wp2_with (first
      |(go_at_call 135;refine(HG.out.done_ (by decide)).mono ?_;rintro e w6 ⟨A,m,c,F6,rfl,d6,a6⟩;rw[if_neg U.out];have aC:=C6x a6;clear d6 a6)
      |fail)
     exact bodyPost_ret (v:=.tuple #[.slice none 0 0,.int .i64 2]) (by simp[results,Tryz.results71,go_sem]) rfl (B1m.no (λo=>U.out o.2) (HA.out.trans (aC.out.sub (λ_ h=>h.elim))))
 ·have aE:=C6x (λo:okI ⟨k,g,v,a⟩=>hk o.1)
  have aD:=C6x (decide_eq_false hk)
  clear hk
  go_wp2_with (first
   |(go_at_call 132;refine(HK.out _).mono ?_;rintro e w1 ⟨rfl,a1⟩;rw[aD.out];have aA:=C6x a1;clear a1)
   |fail)
  exact bodyPost_ret (v:=.tuple #[.slice none 0 0,.int .i64 2]) (by simp[results,Tryz.results71,go_sem]) rfl (B1m.no aE.out (HA.out.trans aA.out))
end
section
open Go.ChangeShapes Go.WideShapes Go.ChangeAt Go.RowKit
theorem B3n{e:TypeId}{w wr U:World}{F:Nat->Prop}{v I:Value}{k m:Nat}{xs ys:List Value}{o:Obj}(W:Sl wr F e 1 v k xs)(ha:B0 B5 w F wr)(Z:U.ownsRow 0 e 1 I (k+1) ys)(hg:(wr.alloc o).grownBy U v.ownBlock)
 (aB:I.ownBlock=v.ownBlock\/I.ownBlock=some m) (hm:wr.heap.size<=m):Sl U (λj=>F j\/I.ownBlock=some j) e 1 I (k+1) ys/\B0 B5 w (λj=>F j\/I.ownBlock=some j) U:=by
 have aA:∀j,(F j\/I.ownBlock=some j)->F j\/wr.heap.size<=j:=by
  rintro j (h|h)
  ·exact .inl h
  ·rcases aB with q|q
   ·exact .inl (W.inF j (by rw[<-q];exact h))
   ·rw[q]at h;injection h with h;right;omega
 have Y:B0 F wr (λj=>F j\/I.ownBlock=some j) U:=by
  have J:=((B0.refl F wr).alloc o).grown hg (λj X=>.inl (W.inF j X))
  exact⟨J.os,J.tape,J.output,J.size,J.block,aA⟩
 refine⟨⟨Z,λj X=>.inr X,?_⟩,ha.trans Y⟩
 rintro j (h|h)
 ·exact Nat.lt_of_lt_of_le (W.bd j h) Y.size
 ·exact(Z.lt j h).2
theorem B80:(Tryz.prog.info? 3).map (λi=>(i.zero,i.size,i.bytes))=some (some (.int .i64 0),1,8):=by kernel_rfl
def NzL(V:World)(x:L6)(t3 t8:Value)(wr:World):Prop:=
 ∃(j:Nat) (F:Nat->Prop),t8= .int .i64 (j:Int)/\j<=8/\Sl wr F 3 1 t3 (nzI x j).length ((nzI x j).map (Value.int .i64))/\B0 B5 V F wr
theorem C2M{x:L6}{j:Nat}(h:x.a j≠0):nzI x (j+1)=nzI x j++[x.a j]:=if_pos h
theorem C40{x:L6}{j:Nat}(h:x.a j=0):nzI x (j+1)=nzI x j:=if_neg (λk=>k h)
theorem C41{x:L6}{j:Nat}{w:World}{F:Nat->Prop}{v:Value}(h:x.a j≠0)(I:Sl w F 3 1 v ((nzI x j).length+1) ((nzI x j).map (Value.int .i64)++[.int .i64 (x.a j)])):Sl w F 3 1 v (nzI x (j+1)).length ((nzI x (j+1)).map (Value.int .i64)):=by
 rw[C2M h,List.map_append,List.length_append]
 exact I
theorem A3C(x:L6)(w:World):Calls Tryz.prog 26 #[.agg (ic x)] w λe w'=>∃v F,e= .returned v/\Sl w' F 3 1 v (nzI x 8).length ((nzI x 8).map (Value.int .i64))/\B0 B5 w F w':=by
 obtain⟨i0,hi,aK,aL,aM⟩:=info_parts B80
 obtain⟨y,hy⟩:∃y,y=w.heap.size:=⟨_,rfl⟩
 obtain⟨V,X⟩:∃V,V=w.alloc (.cells (ic x) 62):=⟨_,rfl⟩
 have HY:=C6x (show C3 V y 62 (ic x)by rw[X,hy];exact C3.new _ _ _)
 have HA:=C6x (show B0 B5 w B5 V by rw[X];exact(B0.refl _ _).alloc _)
 have HV:=C6x X
 have aJ:=C6x hy
 obtain⟨s0,s1,s2,s3,s4,s5,s6,s7,s8,s9,aH⟩:=HY.out.c11.all
 clear X hy
 obtain⟨k,g,v,a⟩:=x
 have HI:=C6x (A9F a)
 simp only[ic]at HV⊢
 simp only at s0 s1 s2 s3 s4 s5 s6 s7 s8 s9 aH
 go_enter Tryz.func26,Tryz.ntmps26
 go_upto_region 1 with(fail)
 rw[<-HV.out,<-aJ.out]
 go_wp2_with fail
 clear s0 s1 s2 s3 s4 s5 s6 s7 s8 s9 aH
 go_loopw [3,8] (NzL V ⟨k,g,v,a⟩) (λ_ t _=>8-(intOf t).toNat)
 case atStart=>exact⟨0,B5,rfl,Nat.zero_le _,Sl.nil _ _ _,B0.refl _ _⟩
 case round=>
  obtain⟨j,F,rfl,hj,W,hA⟩:=hrel
  obtain⟨A3,c3,rfl,_,_⟩:=W.form0
  have HS:=C6x W
  have Z:=C6x hA
  have U:=W.own
  have Y:=A6W ⟨k,g,v,a⟩ j
  obtain⟨n,hn⟩:∃n,n=(nzI ⟨k,g,v,a⟩ j).length:=⟨_,rfl⟩
  rw[<-hn]at U Y⊢
  have I:=C6x hn
  clear W hA hn
  by_cases aC:j<8
  ·have aF:=HI.out j aC
   have aA:=C6x aC
   by_cases J:a j=0
   ·have H0:=C6x J
    rw[J]at aF
    clear J U Y
    go_wp2_with fail
    refine⟨⟨j+1,F,by simp,aA.out,?_,Z.out⟩,by simp[intOf]<;>omega⟩
    rw[I.out,C40 H0.out]
    rw[I.out]at *
    exact HS.out
   ·have H0:=C6x J
    obtain⟨z,hz⟩:∃z,z=a j:=⟨_,rfl⟩
    rw[<-hz]at aF J
    have HZ:=C6x hz
    have aN:n<=8:=by omega
    clear hz Y
    go_wp2_with (first
     |(at_builtin;refine wpList_append_own_at _ rfl (.tmp 13) (.tmp 15) 36 rfl 0 3 i0 (.int .i64 0) 1 8 Tryz.underlying36 hi aK aL aM rfl (by decide) (.slice A3 n c3) n _ rfl (U.alloc _) ⟨wr.heap.size,0,none⟩ 1 1 [.int .i64 z] rfl rfl (cell_one_new _ _ _) ?c2 ?c3 ?c4 (Nat.zero_le _) ?c5)
     |fail)
    case c2=>intro u hu;simp at hu;subst hu;rfl
    case c3=>unfold maxLen;omega
    case c4=>omega
    case c5=>
     intro v' w1 aG aE _ aD
     have aB:=HS.out
     rw[<-I.out]at aB
     obtain⟨h3,a3⟩:=B3n aB Z.out aG aE aD (by omega)
     rw[I.out,HZ.out]at h3
     have H3:=C6x (C41 (x:=⟨k,g,v,a⟩) H0.out h3)
     have aI:=C6x a3
     clear h3 a3 aG aE aD U aB
     go_wp2_with fail
     exact⟨⟨j+1,_,by simp,aA.out,H3.out,aI.out⟩,by have:=aA.out;simp[intOf]<;>omega⟩
  ·obtain rfl:j=8:=by omega
   clear hj aC U Y
   go_wp2_with fail
   go_ret
   refine⟨_,F,rfl,?_,HA.out.trans Z.out⟩
   have h:=HS.out
   rw[<-I.out]at h⊢
   exact h
theorem B81(x:L6)(w:World):Calls Tryz.prog 76 #[.agg (ic x)] w λe w'=>e= .returned (.int .i64 ((nzI x 8).length:Int))/\B0 B5 w B5 w':=by
 obtain⟨y,U⟩:∃y,y=w.heap.size:=⟨_,rfl⟩
 obtain⟨V,I⟩:∃V,V=w.alloc (.cells (ic x) 62):=⟨_,rfl⟩
 have HY:=C6x (show C3 V y 62 (ic x)by rw[I,U];exact C3.new _ _ _)
 have HA:=C6x (show B0 B5 w B5 V by rw[I];exact(B0.refl _ _).alloc _)
 have W:=C6x I
 have aB:=C6x U
 have J:=C6x (A3C x)
 obtain⟨s0,s1,s2,s3,s4,s5,s6,s7,s8,s9,aC⟩:=HY.out.c11.all
 clear I U
 obtain⟨n,Y⟩:∃n,n=(nzI x 8).length:=⟨_,rfl⟩
 rw[<-Y]at J⊢
 obtain⟨k,g,v,a⟩:=x
 simp only[ic]at W J⊢
 simp only at s0 s1 s2 s3 s4 s5 s6 s7 s8 s9 aC
 clear Y
 go_enter Tryz.func76,Tryz.ntmps76
 go_upto_region 1 with(fail)
 rw[<-W.out,<-aB.out]
 go_wp2_with (first
  |(go_at_call 26;refine(J.out _).mono ?_;rintro e w1 ⟨v1,F1,rfl,Z,X⟩;obtain⟨A1,c1,rfl,_,_⟩:=Z.form0;have aA:=C6x X;clear X Z)
  |fail)
 go_ret
 exact⟨rfl,HA.out.trans (aA.out.sub (λ_ h=>h.elim))⟩
end
section
open Go.ChangeShapes Go.WideShapes Go.ChangeAt Go.RowKit
theorem B0.isetCells{F F':Nat->Prop}{w:World}{g:Nat}:∀(I:List Value) (o:Nat) (w':World),B0 F w F' w'->(F g\/w.heap.size<=g)->B0 F w F' (w'.setCells g o I)
 |[],_,_,h,_=>h
 |v::r,o,w',h,hg=>by
  rw[World.setCells]
  exact B0.isetCells r (o+1) _ (h.setCell (p:=⟨g,o,none⟩) hg v) hg
theorem C3.isetCells{g:Nat}{t:TypeId}:∀(W:List Value) (o:Nat) (w:World) (cs:Array Value),C3 w g t cs->∃I,C3 (w.setCells g o W) g t I/\I.size=cs.size
 |[],_,_,cs,h=>⟨cs,h,rfl⟩
 |v::r,o,w,cs,h=>by
  rw[World.setCells]
  obtain⟨I,J,U⟩:=C3.isetCells r (o+1) _ _ (h.set_ o v)
  exact⟨I,J,by rw[U];simp⟩
theorem C3.iputAll{w:World}{g:Nat}{t:TypeId}{C D:Array Value}(h:C3 w g t C)(hs:D.size=C.size):C3 (w.setCells g 0 D.toList) g t D:=by
 obtain⟨U,I,Z⟩:=C3.isetCells D.toList 0 w C h
 have e:U=D:=by
  apply Array.ext (by omega)
  intro k X Y
  have J:=World.cell?_setCells_in g D.toList 0 w (λj W=>by
   rw[h.cell (0+j),Nat.zero_add,Array.getElem?_eq_getElem (by simp at W;omega)];rfl) k (by simpa using Y)
  rw[Nat.zero_add,I.cell k,Array.getElem?_eq_getElem X]at J
  simpa using J
 rw[<-e];rw[e]at I⊢;exact I
theorem C3.ithere{w:World}{g:Nat}{t:TypeId}{C:Array Value}(h:C3 w g t C):w.there g 0 C.size:=λj I=>
 ⟨by rw[h.cell (0+j),Nat.zero_add,Array.getElem?_eq_getElem I];rfl,h.frozen (0+j)⟩
theorem B3o{ops:Array Oper}{o:Oper}{a:Act}{w:World}{Q:Exit->Act->World->Prop}{K:Act->World->Prop}{E:Prop}{t t':TypeId}(Z:(Tryz.prog.info? t).map (·.size)=some 11)(X:o.guard=none)(x y:Operand)(Y:o.op= .store t x y)
 (z:Nat) (C D:Array Value) (U:C3 w z t' C) (W:C.size=11) (I:D.size=11) (J:D.all (·.oneCell')=true) (hx:a.eval x= .pointer (some ⟨z,0,none⟩)) (hy:a.eval y= .agg D)
 (h:K (a.put o.dst undef) (w.setCells z 0 D.toList)):if Region.wanted o (yielded ops a.tmps)=true then Oper.wp Tryz.prog o a w K Q else E:=by
 rw[if_pos (by simp[Region.wanted,X])]
 refine wp_store_mid t x y Y z 0 D hx hy ?_ (by rw[Z,I]) J h
 have:=U.ithere
 rw[W]at this
 rw[I];exact this
theorem A0E{ops:Array Oper}{rest:List Oper}{o:Oper}{a:Act}{w:World}{Q:Exit->Act->World->Prop}{t t':TypeId}(aA:(Tryz.prog.info? t).map (·.size)=some 11)(I:o.guard=none)(x y:Operand)(Z:o.op= .store t x y)
 (z:Nat) (C D:Array Value) (W:C3 w z t' C) (X:C.size=11) (Y:D.size=11) (U:D.all (·.oneCell')=true) (hx:a.eval x= .pointer (some ⟨z,0,none⟩)) (hy:a.eval y= .agg D)
 (h:wpList Tryz.prog ops Q rest (a.put o.dst undef) (w.setCells z 0 D.toList)):wpList Tryz.prog ops Q (o::rest) a w:=by
 refine wpList_plain I λK hK=>?_
 have J:=B3o (ops:=ops) (K:=K) (Q:=Q) (E:=True) aA I x y Z z C D W X Y U hx hy (hK _ _ h)
 rwa[if_pos (by simp[Region.wanted,I])]at J
def J9:L6:=⟨0,0,0,λ_=>0⟩
def B1n(V j:Nat):L6:=⟨(C4 128 V 0 2:Nat),(C4 128 V 2 31:Nat),C4 128 V 33 40,λi=>if i<j then((C4 128 V (73+12 * i) 12:Nat):Int)else 0⟩
theorem C2N(V j:Nat)(I:j<8):(ic (B1n V j)).setIfInBounds (3+j) (.int .i64 ((C4 128 V (73+12 * j) 12:Nat):Int))=ic (B1n V (j+1)):=by
 have h:j=0\/j=1\/j=2\/j=3\/j=4\/j=5\/j=6\/j=7:=by omega
 rcases h with rfl|rfl|rfl|rfl|rfl|rfl|rfl|rfl<;>rfl
structure PrS (W:World) (z u b V:Nat) (F:Nat->Prop) (j:Nat) (w:World):Prop where
 rs:RSt w F b 128 V (73+12 * j)
 bd:Bd F w
 bu:C3 w u 62 (ic (B1n V j))
 bz:C3 w z 62 (ic J9)
 ad:B0 B5 W F w
 fu:¬F u
 fz:¬F z
 uz:u≠z
 nu:W.heap.size<=u
 nz:W.heap.size<=z
theorem PrS.get{W w w':World}{z u b V j:Nat}{F:Nat->Prop}(h:PrS W z u b V F j w)(J:RSt w' F b 128 V (73+12 * j+12))(X:B0 F w F w')(Z:Bd F w')(hj:j<8):
 PrS W z u b V F (j+1) (w'.setCell ⟨u,3+j,none⟩ (.int .i64 ((C4 128 V (73+12 * j) 12:Nat):Int))):=by
 have hu:=h.bu.keep (X.block u h.bu.lt h.fu)
 have hz:=h.bz.keep (X.block z h.bz.lt h.fz)
 obtain⟨rv,Y,U⟩:=J.ex
 have hF:∀k,F k->k≠u:=λk I e=>h.fu (e ▸ I)
 refine⟨⟨⟨rv,Y.far (p:=⟨u,3+j,none⟩) (hF b J.inF) _,?_⟩,J.inF,by have:=J.le;omega,J.sm⟩,?_,?_,hz.far (p:=⟨u,3+j,none⟩) (λe=>h.uz e.symm) _,(h.ad.trans X).setCell (.inr h.nu) _,h.fu,h.fz,h.uz,h.nu,h.nz⟩
 ·refine⟨J2 U.own λk I=>heap_setCell_other w' ⟨u,3+j,none⟩ k _ (hF k (U.inF k I)),U.inF,λk I=>by simpa using U.bd k I⟩
 ·exactλk I=>by simpa using Z k I
 ·have:=hu.set_ (3+j) (.int .i64 ((C4 128 V (73+12 * j) 12:Nat):Int))
  rwa[C2N V j hj]at this
theorem C43(V j:Nat)(I:j<8):(ic (B1n V j))[3+j]? =some (.int .i64 0):=by
 have h:j=0\/j=1\/j=2\/j=3\/j=4\/j=5\/j=6\/j=7:=by omega
 rcases h with rfl|rfl|rfl|rfl|rfl|rfl|rfl|rfl<;>rfl
theorem A5a(q V a n:Nat)(I:n<=62):wrap64 ((C4 q V a n:Nat):Int)=((C4 q V a n:Nat):Int):=by
 have h:=Q7 q V a n
 have J:2^n<=2^62:=Nat.pow_le_pow_right (by decide) I
 unfold wrap64;omega
def PrL(W:World)(z u b V:Nat)(t:Value)(wr:World):Prop:=∃(j:Nat) (F:Nat->Prop),t= .int .i64 (j:Int)/\j<=8/\PrS W z u b V F j wr
theorem B6x{w:World}{F:Nat->Prop}{b q V a:Nat}(h:RSt w F b q V a)(W:Bd F w)(o:Obj):RSt (w.alloc o) F b q V a:=by
 obtain⟨X,U,I⟩:=h.ex
 exact⟨⟨X,U.alloc o,⟨J2 I.own λk J=>Below.heap_alloc _ _ _ (I.bd k (I.inF k J)),I.inF,λk J=>Nat.lt_of_lt_of_le (W k J) (by simp)⟩⟩,h.inF,h.le,h.sm⟩
theorem B6y(v:Value)(l:List Nat)(w:World)(h:Rd w 1 v 128 (l.map u8))(hl:l.length=128)(hb:∀x∈l,x<256):
 Calls Tryz.prog 70 #[v] w λe w'=>e= .returned (.agg (ic (prt (byN l))))/\B0 B5 w B5 w':=by
 obtain⟨A,c,rfl,_,hc⟩:=h.form
 obtain⟨z,hz⟩:∃z,z=w.heap.size:=⟨_,rfl⟩
 obtain⟨J,U⟩:∃V,V=w.alloc (.cells (ic J9) 62):=⟨_,rfl⟩
 have HZ:=C6x (show C3 J z 62 (ic J9)by rw[U,hz];exact C3.new _ _ _)
 have HA:=C6x (show B0 B5 w B5 J by rw[U];exact(B0.refl _ _).alloc _)
 obtain⟨V,aE⟩:∃V,V=byN l:=⟨_,rfl⟩
 have aU:Calls Tryz.prog 130 #[.slice A 128 c] J λe w'=>∃b F,e= .returned (.pointer (some ⟨b,0,none⟩))/\RSt w' F b 128 V 0/\B0 B5 J F w'/\Bd F w':=A3X _ 128 V J (by rw[aE,<-hl,B8s l hb,hl,U];exact h.far (λk _ _ hk=>Below.heap_alloc _ _ _ hk) (by simp)) (by decide)
 rw[<-aE]
 have HO:=C6x aU
 have HV:=C6x U
 have bF:=C6x hz
 have aI:=C6x (show w.heap.size<=z by rw[hz];exact Nat.le_refl _)
 clear aU aE U hz h hl hb
 have W:ic J9= #[.int .i64 0,.int .i64 0,.int .u64 0,.int .i64 0,.int .i64 0,.int .i64 0,.int .i64 0,.int .i64 0,.int .i64 0,.int .i64 0,.int .i64 0]:=rfl
 rw[W]at HV
 clear W
 have e0:=A5a 128 V 0 2 (by decide)
 have e1:=A5a 128 V 2 31 (by decide)
 go_enter Tryz.func70,Tryz.ntmps70
 go_upto_region 1 with(fail)
 rw[<-HV.out,<-bF.out]
 go_wp2_with (first
  |(go_at_call 130;refine HO.out.mono ?_;rintro e w1 ⟨b,F,rfl,r1,a1,b1⟩;have aL:=C6x r1;have aW:=C6x (HA.out.trans a1);have bA:=C6x b1;have aO:=C6x (HZ.out.keep (a1.block z HZ.out.lt (λh=>h)));have Z:=C6x (show¬F z fromλh=>by rcases a1.into z h with h|h;exact h.elim;exact absurd HZ.out.lt (by omega));clear r1 a1 b1)
  |fail)
 go_wp2_with (first
  |(go_at_call 131;refine(A08 b 128 V 0 2 F _ aL.out bA.out (by decide) (by decide)).mono ?_;rintro e w2 ⟨rfl,r2,a2,b2⟩;have aM:=C6x r2;have aX:=C6x (aW.out.trans a2);have bB:=C6x b2;have aP:=C6x (aO.out.keep (a2.block z aO.out.lt Z.out));clear r2 a2 b2 aL)
  |(go_at_call 131;refine(A08 b 128 V 2 31 F _ aM.out bB.out (by decide) (by decide)).mono ?_;rintro e w3 ⟨rfl,r3,a3,b3⟩;have aN:=C6x r3;have aY:=C6x (aX.out.trans a3);have bC:=C6x b3;have aQ:=C6x (aP.out.keep (a3.block z aP.out.lt Z.out));clear r3 a3 b3 aM)
  |(go_at_call 131;refine(A08 b 128 V 33 40 F _ aN.out bC.out (by decide) (by decide)).mono ?_;rintro e Y ⟨rfl,r4,a4,b4⟩;have bD:=C6x r4;have aG:=C6x (aY.out.trans a4);have aC:=C6x b4;have aR:=C6x (aQ.out.keep (a4.block z aQ.out.lt Z.out));clear r4 a4 b4 aN)
  |fail)
 have hu:¬F Y.heap.size:=λh=>Nat.lt_irrefl _ (aC.out _ h)
 have hs:PrS w z Y.heap.size b V F 0 (Y.alloc (.cells (ic (B1n V 0)) 62)):=
  have ha:=aG.out.alloc (.cells (ic (B1n V 0)) 62)
  { rs:=B6x bD.out aC.out _
    bd:=λk hk=>Nat.lt_of_lt_of_le (aC.out k hk) (by simp)
    bu:=C3.new _ _ _
    bz:=aR.out.alloc _
    ad:=ha
    fu:=hu
    fz:=Z.out
    uz:=λe=>by have:=aR.out.lt;omega
    nu:=aG.out.size
    nz:=aI.out }
 have HS:=C6x hs
 obtain⟨u,aV⟩:∃u,u=Y.heap.size:=⟨_,rfl⟩
 rw[<-aV]at HS⊢
 obtain⟨W5,aB⟩:∃W5,W5=Y.alloc (.cells (ic (B1n V 0)) 62):=⟨_,rfl⟩
 rw[<-aB]at HS
 have W:ic (B1n V 0)= #[.int .i64 ((C4 128 V 0 2:Nat):Int),.int .i64 ((C4 128 V 2 31:Nat):Int),.int .u64 ((C4 128 V 33 40:Nat):Int),.int .i64 0,.int .i64 0,.int .i64 0,.int .i64 0,.int .i64 0,.int .i64 0,.int .i64 0,.int .i64 0]:=rfl
 rw[W]at aB
 rw[<-aB]
 clear hs hu W aB aV e0 e1
 go_loopw [17] (PrL w z u b V) (λt _=>8-(intOf t).toNat)
 case atStart=>exact⟨0,F,rfl,Nat.zero_le _,HS.out⟩
 case round=>
  obtain⟨j,F2,rfl,hj,hP⟩:=hrel
  have I:=C6x hP
  clear hP
  by_cases aT:j<8
  ·have aA:=C6x aT
   have ej:=A5a 128 V (73+12 * j) 12 (by decide)
   obtain⟨p,hp⟩:∃p,p=C4 128 V (73+12 * j) 12:=⟨_,rfl⟩
   rw[<-hp]at ej
   have aJ:=C6x hp
   clear hp
   go_wp2_with (first
    |(go_at_call 131;refine(A08 b 128 V (73+12 * j) 12 F2 _ I.out.rs I.out.bd (by decide) (by have:=aA.out;omega)).mono ?_;rintro e w6 ⟨rfl,r6,a6,b6⟩;rw[<-aJ.out];have aD:=I.out.bu.keep (a6.block u I.out.bu.lt I.out.fu);have c6:=(aD.cell (3+j)).trans (C43 V j aA.out);have f6:=aD.frozen (3+j);have aK:=C6x (I.out.get r6 a6 b6 aA.out);rw[<-aJ.out]at aK;clear r6 a6 b6 aD)
    |fail)
   exact⟨⟨j+1,F2,by simp,aA.out,aK.out⟩,by simp[intOf]<;>omega⟩
  ·obtain rfl:j=8:=by omega
   have hB:C3 wr u 62 (ic (prt V)):=I.out.bu
   obtain⟨X,hX⟩:∃X,X=prt V:=⟨_,rfl⟩
   rw[<-hX]at hB
   have HX:=C6x hX
   obtain⟨s0,s1,s2,s3,s4,s5,s6,s7,s8,s9,bH⟩:=hB.c11.all
   have aH:=C6x I.out.bz
   have aZ:=C6x I.out.ad
   clear hj aT hX hB
   obtain⟨k,g,v,a⟩:=X
   simp only at s0 s1 s2 s3 s4 s5 s6 s7 s8 s9 bH
   go_wp2_with (first
    |(refine A0E C0 rfl (.tmp 2) (.tmp 27) rfl z _ (ic ⟨k,g,v,a⟩) aH.out rfl rfl (D5 _) rfl rfl ?_)
    |fail)
   have aS:=(B0.isetCells (ic ⟨k,g,v,a⟩).toList 0 _ aZ.out (.inr aI.out)).sub (G:=B5) (λ_ h=>h.elim)
   obtain⟨z0,z1,z2,z3,z4,z5,z6,z7,z8,z9,aF⟩:=(aH.out.iputAll (D:=ic ⟨k,g,v,a⟩) rfl).c11.all
   simp only at z0 z1 z2 z3 z4 z5 z6 z7 z8 z9 aF
   obtain⟨W9,bG⟩:∃W9,W9=wr.setCells z 0 (ic ⟨k,g,v,a⟩).toList:=⟨_,rfl⟩
   rw[<-bG]at z0 z1 z2 z3 z4 z5 z6 z7 z8 z9 aF aS⊢
   exact bodyPost_ret (v:=.agg #[.int .i64 k,.int .i64 g,.int .u64 (v:Int),.int .i64 (a 0),.int .i64 (a 1),.int .i64 (a 2),.int .i64 (a 3),.int .i64 (a 4),.int .i64 (a 5),.int .i64 (a 6),.int .i64 (a 7)]) (by simp[results,Tryz.results70,go_sem,z0,z1,z2,z3,z4,z5,z6,z7,z8,z9,aF]) rfl ⟨by rw[<-HX.out];rfl,aS⟩
end
end Go.Proofs.YtbefmjiclpobjaaGreat
