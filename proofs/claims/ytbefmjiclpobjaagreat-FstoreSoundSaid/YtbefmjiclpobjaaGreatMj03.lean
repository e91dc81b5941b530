import Derived.Test.YtbefmjiclpobjaaGreatMj02
import Derived.Deep.DeepCutAuto
import Derived.Deep.QuietTactic
import Derived.BigQuiet
import Derived.Laws.AppendOwnNone
namespace Go.Proofs.YtbefmjiclpobjaaGreat
set_option maxHeartbeats 2000000
set_option maxRecDepth 3000
section
open Go.RowKit
theorem C0s(b N m x n:Nat)(F:Nat->Prop)(w:World)(hw:WSt w F b N m)(hF:Bd F w)(hn:n<=64)(hx:x<2^n)(hm:m+n<=1000000000):
 Calls Tryz.prog 172 #[.pointer (some ⟨b,0,none⟩),.int .u64 x,.int .i64 n] w λe w'=>e= .returned (.tuple #[])/\
  ∃F',WSt w' F' b (N * 2^n+x) (m+n)/\B0 F w F' w'/\Bd F' w':=by
 go_enter Tryz.func172,Tryz.ntmps172
 go_wp2_with fail
 go_loopw [1,2] (B7E w F b N m x n) (λ_ t _=>(intOf t).toNat)
 case atStart=>exact⟨x,n,N,m,F,rfl,rfl,Nat.le_refl _,hx,rfl,rfl,hw,B0.refl _ _,hF⟩
 case round=>
  obtain⟨y,k,Y,m',F',rfl,rfl,aD,hy,aH,aR,hs,ha,hb⟩:=hrel
  have W:=C6x aH
  have Z:=C6x aR
  clear aH aR
  obtain⟨bH,J,U⟩:=hs.ex
  have aI:=A6p m'
  have bC:=B2L m'
  have aC:=hs.lt
  have aK:=hs.inF
  obtain⟨r,hr⟩:∃r,r=pad m':=⟨_,rfl⟩
  obtain⟨q,V⟩:∃q,q=qn m':=⟨_,rfl⟩
  have aS:V1 Y m'=be q (Y * 2^r):=by rw[hr,V];rfl
  rw[aS]at U
  rw[<-hr]at J bC aI
  rw[<-V]at U aI
  have HS:=C6x hs
  clear aS hr V hs
  have c3:wr.cell? ⟨b,3,none⟩=some (.int .i64 r):=J.cell 3
  have f3:=J.frozen 3
  have c2:wr.cell? ⟨b,2,none⟩=some bH:=J.cell 2
  have f2:=J.frozen 2
  have HQ:=C6x aI
  have bK:q<=1000000000:=by have:=W.out;omega
  clear aI
  by_cases aO:0<k
  ·by_cases hp:0<r
   ·have V:0<q:=by have:=HQ.out;omega
    obtain⟨g,aE,rfl,bI,bM⟩:=U.form V
    have I:Mid wr F' b g q aE Y r:=⟨J,U,aK,λe=>P5 U.own J (by decide) (by rw[e];rfl)⟩
    have hg:=I.last V
    have fg:=U.own.frozenAt (q-1)
    have aN:g≠b:=I.ne
    have aW:b≠g:=I.ne.symm
    have bP:((r:Int)==0)=false:=by simp;omega
    obtain⟨u,hu⟩:∃u,u=Y * 2^r%256:=⟨_,rfl⟩
    rw[<-hu]at hg
    have HU:=C6x hu
    have aJ:=C6x I
    have aF:y<18446744073709551616:=Nat.lt_of_lt_of_le hy (by have:=Nat.pow_le_pow_right (n:=2) (by decide) (show k<=64 by omega);simpa using this)
    have aZ:k<=64:=by omega
    have HY:=C6x hy
    clear hu I J U hy
    have bA:=B0H y aF
    have aQ:u<256:=by rw[HU.out];exact Nat.mod_lt _ (by decide)
    rcases Nat.lt_trichotomy k r with aB|aB|aB
    ·go_wp2_with fail
     go_region
     go_wp2
     refine⟨A03 (k:=k) aJ.out V HQ.out hp (by omega) (by omega) aO HY.out aC aD W.out Z.out ha hb _ _ _ _ ?_ ?_ ?_ ?_,?_⟩
     ·simp[Nat.mod_one]
     ·simp
     ·rw[<-HU.out]
      exact A8w u _ aQ (Nat.mod_lt _ (by decide)) _ (B4e y k (r-k))
     ·omega
     ·simp[intOf]<;>omega
    ·subst aB
     go_wp2_with fail
     go_region
     go_wp2
     refine⟨A03 (k:=k) aJ.out V HQ.out hp (by omega) (by omega) aO HY.out aC aD W.out Z.out ha hb _ _ _ _ ?_ ?_ ?_ ?_,?_⟩
     ·simp[Nat.mod_one]
     ·simp
     ·rw[<-HU.out]
      exact A8w u _ aQ (Nat.mod_lt _ (by decide)) _ (by simp)
     ·omega
     ·simp[intOf]<;>omega
    ·have aH:=A6y y (k-r) aF (by omega)
     go_wp2_with fail
     go_region
     go_wp2
     refine⟨A03 (k:=r) aJ.out V HQ.out hp (by omega) (by omega) aO HY.out aC aD W.out Z.out ha hb _ _ _ _ ?_ ?_ ?_ ?_,?_⟩
     ·rfl
     ·omega
     ·rw[<-HU.out]
      exact A8w u _ aQ (Nat.mod_lt _ (by decide)) _ (by simp)
     ·omega
     ·simp[intOf]<;>omega
   ·obtain rfl:r=0:=by omega
    obtain⟨a0,aG,rfl,bO,_⟩:=U.form0
    have aT:=C6x J
    have aU:=C6x U
    have aX:(Value.slice a0 q aG).ownBlock≠some b:=P5 U.own J (by decide)
    have bB:=U.own
    have bJ:=J.lt
    have c3:wr.cell? ⟨b,3,none⟩=some (.int .i64 0):=J.cell 3
    have aF:y<18446744073709551616:=A6z hy (by omega)
    have aZ:k<=64:=by omega
    have HY:=C6x hy
    clear J U hy
    obtain⟨i0,hi,bD,bF,bG⟩:=info_parts Tryz.infoU8
    go_upto_region 4 with((first
     |(at_builtin;refine wpList_append_own_at _ rfl (.tmp 18) (.tmp 19) 54 rfl 0 5 i0 (.int .u8 0) 1 1 Tryz.underlying54 hi bD bF bG rfl (by decide) (.slice a0 q aG) q _ rfl (bB.alloc _) ⟨wr.heap.size,0,none⟩ 1 1 [.int .u8 0] rfl rfl (cell_one_new _ _ _) ?c2 ?c3 ?c4 (Nat.zero_le _) ?c5)
     |fail))
    case c2=>intro u hu;simp at hu;subst hu;rfl
    case c3=>unfold maxLen;omega
    case c4=>omega
    case c5=>
     intro v' w1 aP aM _ aV
     obtain⟨g,aE,rfl,_,aY⟩:=aP.form (by omega)
     have aA:C3 w1 b 245 #[.bool true,.int .i64 0,.slice a0 q aG,.int .i64 0]:=(aT.out.alloc _).keep (aM.block b (by simp;omega) (λe=>aX e.symm))
     have c2:w1.cell? ⟨b,2,none⟩=some (.slice a0 q aG):=aA.cell 2
     have c3:w1.cell? ⟨b,3,none⟩=some (.int .i64 0):=aA.cell 3
     have f2:=aA.frozen 2
     have f3:=aA.frozen 3
     have aN:g≠b:=λe=>P5 aP aA (by decide) (by rw[e];rfl)
     have aW:b≠g:=aN.symm
     have HX:=C6x (Mid.grown aA aP aK aN aY (by have:=aM.size;simp at this;exactλj hj=>Nat.lt_of_lt_of_le (hb j hj) (by omega)))
     have hA:=B5Q (b:=b) ha aU.out aM aV aK (.slice (some ⟨g,0,none⟩) (q+1) aE) (.int .i64 8)
     clear aA
     go_upto_region 4 with(fail)
     generalize (w1.setCell ⟨b,2,none⟩ (.slice (some ⟨g,0,none⟩) (q+1) aE)).setCell ⟨b,3,none⟩ (.int .i64 8)=X at *
     have I:=HX.out
     have aL:=I.sl.bd
     have hg:X.cell? ⟨g,q,none⟩=some (.int .u8 0):=by
      have h:=I.last (by omega)
      rwa[show Y * 2^8%256=0 from Nat.mul_mod_left _ _]at h
     have fg:X.frozen? ⟨g,q,none⟩=false:=I.sl.own.frozenAt q
     have c2:X.cell? ⟨b,2,none⟩=some (.slice (some ⟨g,0,none⟩) (q+1) aE):=I.blk.cell 2
     have c3:X.cell? ⟨b,3,none⟩=some (.int .i64 8):=I.blk.cell 3
     have f2:=I.blk.frozen 2
     have f3:=I.blk.frozen 3
     have bA:=B0H y aF
     clear I
     rcases Nat.lt_trichotomy k 8 with aB|aB|aB
     ·go_wp2_with fail
      go_region
      go_wp2
      refine⟨A03 (k:=k) (q:=q+1) HX.out (by omega) (by have:=HQ.out;omega) (by decide) (by decide) (by omega) (by omega) HY.out aC aD W.out Z.out hA aL _ _ _ _ ?_ ?_ ?_ ?_,?_⟩
      ·simp[Nat.mod_one]
      ·simp
      ·rw[show Y * 2^8%256=0 from Nat.mul_mod_left _ _]
       exact A8w 0 _ (by decide) (Nat.mod_lt _ (by decide)) _ (B4e y k (8-k))
      ·omega
      ·simp[intOf]<;>omega
     ·subst aB
      go_wp2_with fail
      go_region
      go_wp2
      refine⟨A03 (k:=8) (q:=q+1) HX.out (by omega) (by have:=HQ.out;omega) (by decide) (by decide) (by omega) (by omega) HY.out aC aD W.out Z.out hA aL _ _ _ _ ?_ ?_ ?_ ?_,?_⟩
      ·simp[Nat.mod_one]
      ·simp
      ·rw[show Y * 2^8%256=0 from Nat.mul_mod_left _ _]
       exact A8w 0 _ (by decide) (Nat.mod_lt _ (by decide)) _ (by simp)
      ·omega
      ·simp[intOf]<;>omega
     ·have aH:=A6y y (k-8) aF (by omega)
      go_wp2_with fail
      go_region
      go_wp2
      refine⟨A03 (k:=8) (q:=q+1) HX.out (by omega) (by have:=HQ.out;omega) (by decide) (by decide) (by omega) (by omega) HY.out aC aD W.out Z.out hA aL _ _ _ _ ?_ ?_ ?_ ?_,?_⟩
      ·rfl
      ·omega
      ·rw[show Y * 2^8%256=0 from Nat.mul_mod_left _ _]
       exact A8w 0 _ (by decide) (Nat.mod_lt _ (by decide)) _ (by simp)
      ·omega
      ·simp[intOf]<;>omega
  ·go_wp2
   obtain rfl:k=0:=by omega
   go_end0
   have h1:=W.out
   have h2:=Z.out
   obtain rfl:y=0:=by omega
   refine⟨rfl,F',?_,ha,hb⟩
   rw[<-h2,<-h1]
   simpa using HS.out
end
section
open Go.RowKit
theorem A0P(n:Nat)(w:World)(h:n<=64):Calls Tryz.prog 167 #[.int .i64 n] w λe w'=>e= .returned (.bool true)/\w=w':=by
 have I:(0:Int)<=n:=by omega
 have J:(n:Int)<=64:=by omega
 go_enter Tryz.func167,Tryz.ntmps167
 go_wp2
 go_ret
 exact⟨rfl,rfl⟩
theorem B2T(n:Int)(w:World)(h:n<0\/64<n):Calls Tryz.prog 167 #[.int .i64 n] w λe w'=>e= .returned (.bool false)/\w=w':=by
 rcases h with h|h
 ·have I:decide ((0:Int)<=n)=false:=by simp;omega
  go_enter Tryz.func167,Tryz.ntmps167
  go_wp2
  go_ret
  exact⟨rfl,rfl⟩
 ·have I:(0:Int)<=n:=by omega
  have J:decide (n<=(64:Int))=false:=by simp;omega
  go_enter Tryz.func167,Tryz.ntmps167
  go_wp2
  go_ret
  exact⟨rfl,rfl⟩
structure B5R (w:World) (F:Nat->Prop) (b:Nat):Prop where
 ex:∃v r,C3 w b 245 #[.bool true,.int .i64 2,v,r]
 inF:F b
 bd:Bd F w
theorem B0J(b:Nat)(F:Nat->Prop)(v r:Value)(w:World)(I:C3 w b 245 #[.bool true,.int .i64 0,v,r])(hF:F b)(J:Bd F w):
 Calls Tryz.prog 171 #[.pointer (some ⟨b,0,none⟩)] w λe w'=>e= .returned (.pointer (some ⟨b,0,none⟩))/\B5R w' F b/\B0 F w F w':=by
 have c1:w.cell? ⟨b,1,none⟩=some (.int .i64 0):=I.cell 1
 have c2:w.cell? ⟨b,2,none⟩=some v:=I.cell 2
 have c3:w.cell? ⟨b,3,none⟩=some r:=I.cell 3
 have V:=I.frozen 1
 have W:=I.frozen 2
 have X:=I.frozen 3
 have H:=C6x I
 clear I
 go_enter Tryz.func171,Tryz.ntmps171
 go_wp2
 go_ret
 refine⟨rfl,⟨⟨_,_,(((H.out.set_ 1 _).set_ 2 _).set_ 3 _)⟩,hF,λj U=>by have:=J j U;simpa[World.setCell]using this⟩,?_⟩
 exact(((B0.refl F w).setCell (p:=⟨b,1,none⟩) (.inl hF) _).setCell (p:=⟨b,2,none⟩) (.inl hF) _).setCell (p:=⟨b,3,none⟩) (.inl hF) _
theorem C22{x n:Nat}(h:x<2^n):((x:Int)/2^n !=0)=false:=by
 have e:(x:Int)/2^n=((x/2^n:Nat):Int):=by rw[Int.natCast_ediv,Int.natCast_pow];rfl
 rw[e,Nat.div_eq_of_lt h];rfl
theorem C0t{x n:Nat}(h:2^n<=x):((x:Int)/2^n !=0)=true:=by
 have e:(x:Int)/2^n=((x/2^n:Nat):Int):=by rw[Int.natCast_ediv,Int.natCast_pow];rfl
 have:0<x/2^n:=Nat.div_pos h (Nat.two_pow_pos n)
 rw[e,bne_iff_ne];omega
theorem A9u(b N m x n:Nat)(F:Nat->Prop)(w:World)(V:WSt w F b N m)(hF:Bd F w)(U:n<=64)(I:x<2^n)(Z:m+n<=1000000000):
 Calls Tryz.prog 134 #[.pointer (some ⟨b,0,none⟩),.int .u64 x,.int .i64 n] w λe w'=>e= .returned (.pointer (some ⟨b,0,none⟩))/\
  ∃F',WSt w' F' b (N * 2^n+x) (m+n)/\B0 F w F' w'/\Bd F' w':=by
 obtain⟨v,J,Y⟩:=V.ex
 have c0:w.cell? ⟨b,0,none⟩=some (.bool true):=J.cell 0
 have c1:w.cell? ⟨b,1,none⟩=some (.int .i64 0):=J.cell 1
 have hd:=C22 I
 have W:=C6x V
 have X:=C6x I
 have aB:=A6z I U
 clear J Y V I
 go_enter Tryz.func134,Tryz.ntmps134
 go_wp2_with (first
  |(go_at_call 167;refine(A0P n _ U).mono ?_;rintro e w' ⟨rfl,rfl⟩)
  |(go_at_call 172;refine(C0s b N m x n F _ W.out hF U X.out Z).mono ?_;rintro e w1 ⟨rfl,aA⟩))
 go_ret
 exact⟨rfl,aA⟩
theorem B4m(b N m x:Nat)(n:Int)(F:Nat->Prop)(w:World)(W:WSt w F b N m)(hF:Bd F w)(_hx:x<18446744073709551616)(U:n<0\/64<n\/∃k:Nat,n=k/\k<=64/\2^k<=x):
 Calls Tryz.prog 134 #[.pointer (some ⟨b,0,none⟩),.int .u64 x,.int .i64 n] w λe w'=>e= .returned (.pointer (some ⟨b,0,none⟩))/\B5R w' F b/\B0 F w F w':=by
 obtain⟨v,I,hS⟩:=W.ex
 have c0:w.cell? ⟨b,0,none⟩=some (.bool true):=I.cell 0
 have c1:w.cell? ⟨b,1,none⟩=some (.int .i64 0):=I.cell 1
 have Y:=W.inF
 have X:=C6x I
 clear I hS W
 by_cases J:n<0\/64<n
 ·clear U
  go_enter Tryz.func134,Tryz.ntmps134
  go_wp2_with (first
   |(go_at_call 167;refine(B2T n _ J).mono ?_;rintro e w' ⟨rfl,rfl⟩)
   |(go_at_call 171;refine(B0J b F _ _ _ X.out Y hF).mono ?_;rintro e w1 ⟨rfl,V⟩))
  go_ret
  exact⟨rfl,V⟩
 ·obtain⟨k,rfl,hk,Z⟩:∃k:Nat,n=k/\k<=64/\2^k<=x:=by
   rcases U with h|h|h
   ·exact absurd (.inl h) J
   ·exact absurd (.inr h) J
   ·exact h
  have hd:=C0t Z
  clear U J Z
  go_enter Tryz.func134,Tryz.ntmps134
  go_wp2_with (first
   |(go_at_call 167;refine(A0P k _ hk).mono ?_;rintro e w' ⟨rfl,rfl⟩)
   |(go_at_call 171;refine(B0J b F _ _ _ X.out Y hF).mono ?_;rintro e w1 ⟨rfl,V⟩))
  go_ret
  exact⟨rfl,V⟩
theorem B4n(b:Nat)(x n:Int)(F:Nat->Prop)(w:World)(J:B5R w F b):
 Calls Tryz.prog 134 #[.pointer (some ⟨b,0,none⟩),.int .u64 x,.int .i64 n] w λe w'=>e= .returned (.pointer (some ⟨b,0,none⟩))/\w=w':=by
 obtain⟨v,r,I⟩:=J.ex
 have U:w.cell? ⟨b,0,none⟩=some (.bool true):=I.cell 0
 have c1:w.cell? ⟨b,1,none⟩=some (.int .i64 2):=I.cell 1
 clear I J
 go_enter Tryz.func134,Tryz.ntmps134
 go_wp2
 go_ret
 exact⟨rfl,rfl⟩
theorem A5W(w:World):Calls Tryz.prog 133 #[] w λe w'=>∃b F,e= .returned (.pointer (some ⟨b,0,none⟩))/\WSt w' F b 0 0/\B0 B5 w F w'/\Bd F w':=by
 go_enter Tryz.func133,Tryz.ntmps133
 go_wp2
 go_ret
 refine⟨w.heap.size,(·=w.heap.size),rfl,⟨⟨.slice none 0 0,C3.new _ _ _,?_⟩,rfl,by decide⟩,?_,?_⟩
 ·refine Sl.nilF _ _ (λk I=>?_) _ _
  simp[I]
 ·exact B0.new_ ((Below.refl _ _).alloc (Nat.le_refl _) _) (λk I=>by simp[I])
 ·intro k I
  simp[I]
end
section
open Go.RowKit
theorem A8x(v:Value)(n:Nat)(J:List Value)(w:World)(hv:Rd w 1 v n J)(h1:∀u∈J,u.oneCell'=true)(hl:n<=1000000000):
 Calls Tryz.prog 165 #[v] w λe w'=>∃U F',e= .returned U/\Sl w' F' 5 1 U n J/\B0 B5 w F' w':=by
 obtain⟨A,c,rfl,aD,aB,W,X,V⟩:=hv
 obtain⟨i0,hi,aH,aI,aJ⟩:=info_parts Tryz.infoU8
 rcases A with _|a
 ·obtain rfl:c=0:=X rfl
  obtain rfl:n=0:=by omega
  obtain rfl:J=[]:=List.eq_nil_of_length_eq_zero (by simpa using W)
  have he:=λZ=>Lib.run_eql_slice_nil (P:=Tryz.prog) Z 54 5 none 0 0 0 0 Tryz.underlying54
  clear aD aB W X V h1
  go_enter Tryz.func165,Tryz.ntmps165
  go_wp2
  go_ret
  exact⟨_,_,rfl,Sl.nil _ _ _,B0.refl _ _⟩
 ·have he:=λZ=>Lib.run_eql_slice_nil (P:=Tryz.prog) Z 54 5 (some a) n c 0 0 Tryz.underlying54
  have aA:∀j u,J[j]? =some u->(w.alloc (.cells #[] 5)).cell? (a.add j)=some u:=by
   intro j u hu
   have hj:j<J.length:=(List.getElem?_eq_some_iff.1 hu).1
   obtain⟨ad,e,Y,hc⟩:=V (by omega)
   injection e with e
   subst e
   rw[World.cell?_of_block (w:=w) (by rw[A01];exact Below.heap_alloc _ _ _ Y)]
   exact hc j u hu
  have aG:(w.alloc (.cells #[] 5)).ownsRow w.heap.size 5 1 (.slice (some ⟨w.heap.size,0,none⟩) 0 0) 0 []:=World.ownsRow_made w #[] 0 (Nat.le_refl _) (Nat.zero_le _) rfl
  have HR:=C6x V
  have HC:=C6x aA
  have HL:=C6x W
  clear V aA X W aD aB
  go_enter Tryz.func165,Tryz.ntmps165
  go_wp2_with (first
   |(at_builtin;refine wpList_append_own_at _ rfl (.tmp 5) (.tmp 6) 54 rfl w.heap.size 5 i0 (.int .u8 0) 1 1 Tryz.underlying54 hi aH aI aJ rfl (by decide) (.slice (some ⟨w.heap.size,0,none⟩) 0 0) 0 [] rfl aG a n c J rfl HL.out HC.out h1 ?c3 ?c4 (by simp) ?c5)
   |fail)
  case c3=>unfold maxLen;omega
  case c4=>omega
  case c5=>
   intro U w1 aE aF _ aK
   go_wp2
   go_ret
   have Y:Below w.heap.size w w1:=((Below.refl w.heap.size w).alloc (Nat.le_refl _) _).grown aF (by simp) (λk I=>by simp[Value.ownBlock]at I;omega)
   have aC:=aE.lt
   exact⟨U,(λk=>U.ownBlock=some k),rfl,⟨A07 aE,λk I=>I,λk I=>(aC k I).2⟩,B0.new_ Y (λk I=>(aC k I).1)⟩
theorem A5X(b N m:Nat)(F:Nat->Prop)(w:World)(U:WSt w F b N m)(hm:m<=1000000000):
 Calls Tryz.prog 135 #[.pointer (some ⟨b,0,none⟩)] w λe w'=>∃v F',e= .returned (.tuple #[v,.int .i64 0])/\Sl w' F' 5 1 v (qn m) ((V1 N m).map u8)/\B0 B5 w F' w':=by
 obtain⟨v,I,J⟩:=U.ex
 have Z:w.cell? ⟨b,0,none⟩=some (.bool true):=I.cell 0
 have c1:w.cell? ⟨b,1,none⟩=some (.int .i64 0):=I.cell 1
 have c2:w.cell? ⟨b,2,none⟩=some v:=I.cell 2
 have V:=C6x J
 have X:qn m<=1000000000:=by unfold qn;omega
 clear I J U
 go_enter Tryz.func135,Tryz.ntmps135
 go_wp2_with (first
  |(go_at_call 165;refine(A8x v _ _ _ V.out.rd (T5 _) X).mono ?_;rintro e w1 ⟨v1,Y,rfl,W⟩))
 go_ret2
 exact⟨_,_,rfl,W⟩
theorem B0K(b:Nat)(F:Nat->Prop)(w:World)(J:B5R w F b):
 Calls Tryz.prog 135 #[.pointer (some ⟨b,0,none⟩)] w λe w'=>e= .returned (.tuple #[.slice none 0 0,.int .i64 2])/\B0 B5 w B5 w':=by
 obtain⟨v,r,I⟩:=J.ex
 have U:w.cell? ⟨b,0,none⟩=some (.bool true):=I.cell 0
 have c1:w.cell? ⟨b,1,none⟩=some (.int .i64 2):=I.cell 1
 clear I J
 go_enter Tryz.func135,Tryz.ntmps135
 go_wp2
 go_quiet (fail)
 go_wp2
 go_ret2
 exact⟨rfl,(B0.refl _ _).drewN _⟩
end
section
open Go.RowKit
structure RSt (w:World) (F:Nat->Prop) (b q V a:Nat):Prop where
 ex:∃rowv,C3 w b 243 #[.bool true,.int .i64 0,rowv,.int .i64 (a:Nat)]/\Sl w F 5 1 rowv q ((be q V).map u8)
 inF:F b
 le:a<=8 * q
 sm:q<=1000000000
structure B5S (w:World) (F:Nat->Prop) (b:Nat) (e:Int):Prop where
 ex:∃v r,C3 w b 243 #[.bool true,.int .i64 e,v,r]
 ne:(e !=0)=true
 inF:F b
 bd:Bd F w
theorem A3X(v:Value)(q V:Nat)(w:World)(hv:Rd w 1 v q ((be q V).map u8))(X:q<=1000000000):
 Calls Tryz.prog 130 #[v] w λe w'=>∃b F,e= .returned (.pointer (some ⟨b,0,none⟩))/\RSt w' F b q V 0/\B0 B5 w F w'/\Bd F w':=by
 have H:=C6x hv
 clear hv
 go_enter Tryz.func130,Tryz.ntmps130
 go_wp2_with (first
  |(go_at_call 165;refine(A8x v _ _ _ H.out (T5 _) X).mono ?_;rintro e Y ⟨v1,Z,rfl,J,W⟩;obtain⟨a1,c1,rfl,_,_⟩:=J.form0))
 go_ret
 refine⟨Y.heap.size,λk=>Z k\/k=Y.heap.size,rfl,⟨⟨_,C3.new _ _ _,?_⟩,.inr rfl,by omega,X⟩,?_,?_⟩
 ·exact⟨J2 J.own (λk I=>Below.heap_alloc _ _ _ (J.bd k (J.inF k I))),λk I=>.inl (J.inF k I),λk I=>by
   rcases I with h|h
   ·have:=J.bd k h;simp;omega
   ·simp[h]⟩
 ·have U:=W.alloc (.cells #[.bool true,.int .i64 0,.slice a1 q c1,.int .i64 0] 243)
  refine⟨U.os,U.tape,U.output,U.size,U.block,λk I=>?_⟩
  rcases I with h|h
  ·exact U.into k h
  ·right;rw[h];exact W.size
 ·intro k I
  rcases I with h|h
  ·have:=J.bd k h;simp;omega
  ·simp[h]
def B4o(w:World)(F:Nat->Prop)(b q V a n:Nat)(t5 t1:Value)(wr:World):Prop:=
 ∃c k,t1= .int .i64 ((k:Nat):Int)/\t5= .int .u64 ((C4 q V a c:Nat):Int)/\c+k=n/\RSt wr F b q V (a+c)/\B0 (·=b) w (·=b) wr/\Bd F wr
theorem A60(X u k s q V a c p:Nat)(I:X=C4 q V a c)(J:u=V/256^(q-1-p/8)%256)(hp:p=a+c)(hs:s=8-p%8-k)(Z:k<=8-p%8)(Y:c+k<=64)(aB:p+k<=8 * q)(aA:p/8<q)
 (v:Int) (hv:v=((u/2^s:Nat):Int)):
 bits .or .u64 (IntKind.u64.wrap ((X:Int) * 2^k)) (bits .and .u64 v (IntKind.u64.wrap (IntKind.u64.wrap (2^k)-1)))=((C4 q V a (c+k):Nat):Int):=by
 have aC:u<256:=by rw[J];exact Nat.mod_lt _ (by decide)
 have aD:u/2^s<=u:=Nat.div_le_self _ _
 have U:IntKind.u64.wrap ((X:Int) * 2^k)=((X * 2^k%18446744073709551616:Nat):Int):=by
  rw[IntKind.wrap_u64,Int.natCast_emod,Int.natCast_mul,Int.natCast_pow];rfl
 rw[hv,U,A6y _ k (by omega) (by omega),u64_or_nat _ _ (Nat.mod_lt _ (by decide)) (Nat.lt_of_le_of_lt (Nat.mod_le _ _) (by omega))]
 have W:u/2^s%2^k=C4 q V p k:=by rw[J,hs];exact B0E q V p k Z aA
 rw[W,C21 X _ c k (by rw[I];exact Q7 _ _ _ _) (Q7 _ _ _ _) Y,A9t q V a c k (by omega),I,hp]
theorem B7F(u s:Nat)(J:u<256):IntKind.u64.wrap ((u:Int)/2^s)=((u/2^s:Nat):Int):=by
 have h:u/2^s<=u:=Nat.div_le_self _ _
 have e:(u:Int)/2^s=((u/2^s:Nat):Int):=by rw[Int.natCast_ediv,Int.natCast_pow];rfl
 rw[e,IntKind.wrap_u64]
 have I:((u/2^s:Nat):Int)<=u:=by exact_mod_cast h
 have h3:(0:Int)<=((u/2^s:Nat):Int):=Int.natCast_nonneg _
 exact Int.emod_eq_of_lt h3 (by omega)
theorem A31{w wr:World}{F:Nat->Prop}{b q V a n c k kk p j:Nat}{v:Value}(J:C3 wr b 243 #[.bool true,.int .i64 0,v,.int .i64 (p:Nat)])(I:Sl wr F 5 1 v q ((be q V).map u8))(U:F b)(Z:q<=1000000000)
 (hp:p=a+c) (aA:c+k=n) (aB:kk<=k) (aC:p+k<=8 * q) (W:B0 (·=b) w (·=b) wr) (x t m:Int) (hx:x=((C4 q V a (c+kk):Nat):Int)) (ht:t=((p+kk:Nat):Int)) (X:m=((k-kk:Nat):Int)):
 B4o w F b q V a n (.int .u64 x) (.int .i64 m) ((wr.drewN j).setCell ⟨b,3,none⟩ (.int .i64 t)):=by
 subst hx;subst ht;subst X
 have Y:v.ownBlock≠some b:=P5 I.own J (by decide)
 refine⟨c+kk,k-kk,rfl,rfl,by omega,⟨⟨v,?_,?_⟩,U,by omega,Z⟩,(W.drewN j).setCell (p:=⟨b,3,none⟩) (.inl rfl) _,λi hi=>by have:=I.bd i hi;simpa[World.setCell]using this⟩
 ·have h:=(show C3 (wr.drewN j) b 243 _ from J).set_ 3 (.int .i64 ((p+kk:Nat):Int))
  rw[show a+(c+kk)=p+kk from by omega]
  exact h
 ·refine⟨J2 I.own (λi hi=>?_),I.inF,λi hi=>by have:=I.bd i hi;simpa[World.setCell]using this⟩
  exact Below.heap_setCell (wr.drewN j) _ _ _ (λe=>Y (by rw[hi,e]))
theorem A61(b q V a n:Nat)(F:Nat->Prop)(w:World)(hw:RSt w F b q V a)(hF:Bd F w)(hn:n<=64)(hx:a+n<=8 * q):
 Calls Tryz.prog 170 #[.pointer (some ⟨b,0,none⟩),.int .i64 n] w λe w'=>e= .returned (.int .u64 ((C4 q V a n:Nat):Int))/\RSt w' F b q V (a+n)/\B0 (·=b) w (·=b) w'/\Bd F w':=by
 have hq:=hw.sm
 have H0:=C6x hw
 clear hw
 go_enter Tryz.func170,Tryz.ntmps170
 go_wp2_with fail
 go_loopw [5,1] (B4o w F b q V a n) (λ_ t _=>(intOf t).toNat)
 case atStart=>exact⟨0,n,rfl,by rw[B0D];rfl,by omega,H0.out,B0.refl _ _,hF⟩
 case round=>
  obtain⟨c,k,rfl,rfl,aE,W,ha,hb⟩:=hrel
  obtain⟨aP,U,Y⟩:=W.ex
  have aB:=W.inF
  by_cases aK:0<k
  ·have aG:0<q:=by omega
   obtain⟨g,aF,rfl,aI,aM⟩:=Y.form aG
   obtain⟨p,hp⟩:∃p,p=a+c:=⟨_,rfl⟩
   rw[<-hp]at U
   have c2:wr.cell? ⟨b,2,none⟩=some (.slice (some ⟨g,0,none⟩) q aF):=U.cell 2
   have c3:wr.cell? ⟨b,3,none⟩=some (.int .i64 p):=U.cell 3
   have f3:=U.frozen 3
   have aD:p+k<=8 * q:=by omega
   have aA:p/8<q:=by omega
   obtain⟨u,hu⟩:∃u,u=V/256^(q-1-p/8)%256:=⟨_,rfl⟩
   have hg:wr.cell? ⟨g,p/8,none⟩=some (.int .u8 u):=by
    rw[Y.own.cellAt (p/8) (by omega),List.getElem?_map,B7D _ _ _ aA,<-hu];rfl
   have aH:u<256:=by rw[hu];exact Nat.mod_lt _ (by decide)
   obtain⟨X,Z⟩:∃X,X=C4 q V a c:=⟨_,rfl⟩
   have aJ:X<18446744073709551616:=by rw[Z];exact A6z (Q7 _ _ _ _) (by omega)
   rw[<-Z]
   have HX:=C6x Z
   have HU:=C6x hu
   have J:=C6x hp
   have HB:=C6x U
   have HS:=C6x Y
   have I:=C6x aE
   have aL:k<=64:=by omega
   obtain⟨r,hr⟩:∃r,r=p%8:=⟨_,rfl⟩
   have aN:r<8:=by omega
   have aO:((p:Int)%8)=(r:Int):=by omega
   clear Z hu hp U Y W aE hr
   rcases Nat.lt_trichotomy k (8-r)with aC|aC|aC
   ·go_wp2_with fail
    go_quiet (fail)
    go_wp2_with fail
    go_quiet (fail)
    go_wp2
    refine⟨A31 (kk:=k) HB.out HS.out aB hq J.out I.out (by omega) aD ha _ _ _ (A60 X u k (8-r-k) q V a c p HX.out HU.out J.out (by omega) (by omega) (by have:=I.out;omega) (by omega) aA _ ?_) ?_ ?_,?_⟩
    ·exact B7F u _ aH
    ·omega
    ·omega
    ·simp[intOf]<;>omega
   ·subst aC
    go_wp2_with fail
    go_quiet (fail)
    go_wp2_with fail
    go_quiet (fail)
    go_wp2
    refine⟨A31 (kk:=8-r) HB.out HS.out aB hq J.out I.out (by omega) aD ha _ _ _ (A60 X u (8-r) 0 q V a c p HX.out HU.out J.out (by omega) (by omega) (by have:=I.out;omega) (by omega) aA _ ?_) ?_ ?_,?_⟩
    ·simp
    ·omega
    ·omega
    ·simp[intOf]<;>omega
   ·go_wp2_with fail
    go_quiet (fail)
    go_wp2_with fail
    go_quiet (fail)
    go_wp2
    refine⟨A31 (kk:=8-r) HB.out HS.out aB hq J.out I.out (by omega) aD ha _ _ _ (A60 X u (8-r) 0 q V a c p HX.out HU.out J.out (by omega) (by omega) (by have:=I.out;omega) (by omega) aA _ ?_) ?_ ?_,?_⟩
    ·simp
    ·omega
    ·omega
    ·simp[intOf]<;>omega
  ·obtain rfl:k=0:=by omega
   have h:c=n:=by omega
   subst h
   go_wp2
   go_ret
   exact⟨rfl,W,ha,hb⟩
end
section
open Go.RowKit
theorem A2J(b q V a:Nat)(F:Nat->Prop)(w:World)(J:RSt w F b q V a):
 Calls Tryz.prog 166 #[.pointer (some ⟨b,0,none⟩)] w λe w'=>e= .returned (.int .i64 0)/\w=w':=by
 obtain⟨v,I,_⟩:=J.ex
 have U:w.cell? ⟨b,0,none⟩=some (.bool true):=I.cell 0
 have c1:w.cell? ⟨b,1,none⟩=some (.int .i64 0):=I.cell 1
 clear I J
 go_enter Tryz.func166,Tryz.ntmps166
 go_wp2
 go_ret
 exact⟨rfl,rfl⟩
theorem B0L(b:Nat)(x:Int)(F:Nat->Prop)(w:World)(J:B5S w F b x):
 Calls Tryz.prog 166 #[.pointer (some ⟨b,0,none⟩)] w λe w'=>e= .returned (.int .i64 x)/\w=w':=by
 obtain⟨v,r,I⟩:=J.ex
 have U:w.cell? ⟨b,0,none⟩=some (.bool true):=I.cell 0
 have c1:w.cell? ⟨b,1,none⟩=some (.int .i64 x):=I.cell 1
 clear I J
 go_enter Tryz.func166,Tryz.ntmps166
 go_wp2
 go_ret
 exact⟨rfl,rfl⟩
theorem A3Y(b q V a:Nat)(F:Nat->Prop)(w:World)(I:RSt w F b q V a):
 Calls Tryz.prog 169 #[.pointer (some ⟨b,0,none⟩)] w λe w'=>e= .returned (.int .i64 ((8 * q-a:Nat):Int))/\∃n,w'=w.drewN n:=by
 obtain⟨v,J,U⟩:=I.ex
 obtain⟨W,X,rfl,_,_⟩:=U.form0
 have c2:w.cell? ⟨b,2,none⟩=some (.slice W q X):=J.cell 2
 have c3:w.cell? ⟨b,3,none⟩=some (.int .i64 a):=J.cell 3
 have Y:=I.le
 have Z:=I.sm
 have H:=C6x I
 clear J I U
 go_enter Tryz.func169,Tryz.ntmps169
 go_wp2_with (first
  |(go_at_call 166;refine(A2J _ _ _ _ _ _ H.out).mono ?_;rintro e w1 ⟨rfl,rfl⟩))
 go_quiet (fail)
 go_wp2
 go_ret
 refine⟨?_,_,rfl⟩
 rw[show((8 * q-a:Nat):Int)=(q:Int) * 8-a from by omega]
 rfl
theorem B5T(b q V a:Nat)(x:Int)(Y:(x !=0)=true)(F:Nat->Prop)(w:World)(J:RSt w F b q V a)(W:Bd F w):
 Calls Tryz.prog 168 #[.pointer (some ⟨b,0,none⟩),.int .i64 x] w λe w'=>e= .returned (.tuple #[])/\B5S w' F b x/\B0 F w F w':=by
 obtain⟨v,I,U⟩:=J.ex
 have hF:=J.inF
 have c1:w.cell? ⟨b,1,none⟩=some (.int .i64 0):=I.cell 1
 have c2:w.cell? ⟨b,2,none⟩=some v:=I.cell 2
 have c3:w.cell? ⟨b,3,none⟩=some (.int .i64 a):=I.cell 3
 have Z:=I.frozen 1
 have f2:=I.frozen 2
 have f3:=I.frozen 3
 have H:=C6x I
 clear I U J
 go_enter Tryz.func168,Tryz.ntmps168
 go_wp2
 go_end0
 refine⟨rfl,⟨⟨_,_,(((H.out.set_ 1 _).set_ 2 _).set_ 3 _)⟩,Y,hF,λj X=>by have:=W j X;simpa[World.setCell]using this⟩,?_⟩
 exact(((B0.refl F w).setCell (p:=⟨b,1,none⟩) (.inl hF) _).setCell (p:=⟨b,2,none⟩) (.inl hF) _).setCell (p:=⟨b,3,none⟩) (.inl hF) _
theorem RSt.drewN{w:World}{F:Nat->Prop}{b q V a:Nat}(h:RSt w F b q V a)(n:Nat):RSt (w.drewN n) F b q V a:=
 ⟨let ⟨r,h1,h2⟩:=h.ex;⟨r,h1,⟨h2.own,h2.inF,h2.bd⟩⟩,h.inF,h.le,h.sm⟩
theorem A08(b q V a n:Nat)(F:Nat->Prop)(w:World)(J:RSt w F b q V a)(hF:Bd F w)(I:n<=64)(Z:a+n<=8 * q):
 Calls Tryz.prog 131 #[.pointer (some ⟨b,0,none⟩),.int .i64 n] w λe w'=>e= .returned (.int .u64 ((C4 q V a n:Nat):Int))/\RSt w' F b q V (a+n)/\B0 F w F w'/\Bd F w':=by
 have aA:(n:Int)<=((8 * q-a:Nat):Int):=by omega
 have H:=C6x J
 clear J
 go_enter Tryz.func131,Tryz.ntmps131
 go_wp2_with (first
  |(go_at_call 166;refine(A2J _ _ _ _ _ _ H.out).mono ?_;rintro e U ⟨rfl,rfl⟩)
  |(go_at_call 167;refine(A0P n _ I).mono ?_;rintro e U ⟨rfl,rfl⟩)
  |(go_at_call 169;refine(A3Y _ _ _ _ _ _ H.out).mono ?_;rintro e U ⟨rfl,nd,rfl⟩)
  |(go_at_call 170;refine(A61 _ _ _ _ n _ _ (H.out.drewN nd) hF I Z).mono ?_;rintro e w2 ⟨rfl,W,X,h3⟩))
 go_ret
 exact⟨rfl,W,(B0.of_drewN X).same (λk Y=>by rw[Y];exact H.out.inF),h3⟩
theorem A8y(b q V a n:Nat)(F:Nat->Prop)(w:World)(J:RSt w F b q V a)(hF:Bd F w)(X:n<=64)(hx:8 * q<a+n):
 Calls Tryz.prog 131 #[.pointer (some ⟨b,0,none⟩),.int .i64 n] w λe w'=>e= .returned (.int .u64 0)/\B5S w' F b 3/\B0 F w F w':=by
 have Z:=J.le
 have aA:((8 * q-a:Nat):Int)<(n:Int):=by omega
 have H:=C6x J
 clear J
 go_enter Tryz.func131,Tryz.ntmps131
 go_wp2_with (first
  |(go_at_call 166;refine(A2J _ _ _ _ _ _ H.out).mono ?_;rintro e U ⟨rfl,rfl⟩)
  |(go_at_call 167;refine(A0P n _ X).mono ?_;rintro e U ⟨rfl,rfl⟩)
  |(go_at_call 169;refine(A3Y _ _ _ _ _ _ H.out).mono ?_;rintro e U ⟨rfl,Y,rfl⟩)
  |(go_at_call 168;refine(B5T _ _ _ _ _ (by decide) _ _ (H.out.drewN Y) hF).mono ?_;rintro e U ⟨rfl,W,I⟩))
 go_ret
 exact⟨rfl,W,⟨I.os,I.tape,I.output,I.size,I.block,I.into⟩⟩
theorem B4p(b:Nat)(n x:Int)(F:Nat->Prop)(w:World)(I:B5S w F b x):
 Calls Tryz.prog 131 #[.pointer (some ⟨b,0,none⟩),.int .i64 n] w λe w'=>e= .returned (.int .u64 0)/\w=w':=by
 have J:=I.ne
 have H:=C6x I
 clear I
 go_enter Tryz.func131,Tryz.ntmps131
 go_wp2_with (first
  |(go_at_call 166;refine(B0L _ _ _ _ H.out).mono ?_;rintro e U ⟨rfl,rfl⟩))
 go_ret
 exact⟨rfl,rfl⟩
theorem A62(q V a:Nat):C4 q V a (8 * q-a)=V%2^(8 * q-a):=by
 unfold C4
 rw[Nat.sub_self,Nat.pow_zero,Nat.div_one]
def A3i(q V a:Nat):Int:=if 8 * q-a<8/\V%2^(8 * q-a)=0 then 0 else 6
theorem C0u(b q V a:Nat)(F:Nat->Prop)(w:World)(hw:RSt w F b q V a)(hF:Bd F w):
 Calls Tryz.prog 158 #[.pointer (some ⟨b,0,none⟩)] w λe w'=>e= .returned (.int .i64 (A3i q V a))/\Below w.heap.size w w':=by
 obtain⟨v,X,hS⟩:=hw.ex
 obtain⟨a0,aA,rfl,_,_⟩:=hS.form0
 have c0:w.cell? ⟨b,0,none⟩=some (.bool true):=X.cell 0
 have c1:w.cell? ⟨b,1,none⟩=some (.int .i64 0):=X.cell 1
 have c2:w.cell? ⟨b,2,none⟩=some (.slice a0 q aA):=X.cell 2
 have c3:w.cell? ⟨b,3,none⟩=some (.int .i64 a):=X.cell 3
 have H:=C6x hw
 have HB:=C6x X
 have W:=C6x hS
 clear X hw hS
 have aD:=H.out.le
 have hc:RSt (w.alloc (.cells #[.bool true,.int .i64 0,.slice a0 q aA,.int .i64 (a:Nat)] 243)) F b q V a:=
  ⟨⟨_,HB.out.alloc _,J2 W.out.own (λk I=>Below.heap_alloc _ _ _ (hF k (W.out.inF k I))),W.out.inF,λk I=>by have:=hF k I;simp;omega⟩,H.out.inF,H.out.le,H.out.sm⟩
 have hd:RSt (w.alloc (.cells #[.bool true,.int .i64 0,.slice a0 q aA,.int .i64 (a:Nat)] 243)) (λk=>F k\/k=w.heap.size) w.heap.size q V a:=
  ⟨⟨_,C3.new _ _ _,J2 W.out.own (λk I=>Below.heap_alloc _ _ _ (hF k (W.out.inF k I))),λk I=>.inl (W.out.inF k I),λk I=>by
    rcases I with h|h
    ·have:=hF k h;simp;omega
    ·simp[h]⟩,.inr rfl,H.out.le,H.out.sm⟩
 have HC:=C6x hc
 have HD:=C6x hd
 clear hc hd
 have aB:∀(n:Nat) (w2:World),B0 (·=w.heap.size) ((w.alloc (.cells #[.bool true,.int .i64 0,.slice a0 q aA,.int .i64 (a:Nat)] 243)).drewN n) (·=w.heap.size) w2->Below w.heap.size w w2:=λn w2 h=>
  (B0.of_drewN h).below ((Below.refl _ _).alloc (Nat.le_refl _) _) (λk I=>by rw[I];exact Nat.le_refl _) (by simp)
 have HF:=C6x aB
 clear aB
 by_cases h8:8 * q-a<8
 ·have aC:((8 * q-a:Nat):Int)<8:=by omega
  by_cases Y:V%2^(8 * q-a)=0
  ·have J:A3i q V a=0:=by unfold A3i;rw[if_pos ⟨h8,Y⟩]
   rw[J]
   have eb:C4 q V a (8 * q-a)=0:=by rw[A62];exact Y
   have EB:=C6x eb
   clear eb J Y
   go_enter Tryz.func158,Tryz.ntmps158
   go_wp2_with (first
    |(go_at_call 166;refine(A2J _ _ _ _ _ _ H.out).mono ?_;rintro e Z ⟨rfl,rfl⟩)
    |(go_at_call 169;refine(A3Y _ _ _ _ _ _ HC.out).mono ?_;rintro e Z ⟨rfl,U,rfl⟩)
    |(go_at_call 170;refine(A61 _ _ _ _ (8 * q-a) _ _ (HD.out.drewN U) (HD.out.ex.choose_spec.2.bd) (by omega) (by omega)).mono ?_;rintro e w2 ⟨rfl,h1,h2,h3⟩;rw[EB.out]))
   go_ret
   exact⟨rfl,HF.out U w2 h2⟩
  ·have J:A3i q V a=6:=by unfold A3i;rw[if_neg (λh=>Y h.2)]
   rw[J]
   have eb:(((C4 q V a (8 * q-a):Nat):Int)!=0)=true:=by rw[A62,bne_iff_ne];omega
   clear J Y
   go_enter Tryz.func158,Tryz.ntmps158
   go_wp2_with (first
    |(go_at_call 166;refine(A2J _ _ _ _ _ _ H.out).mono ?_;rintro e Z ⟨rfl,rfl⟩)
    |(go_at_call 169;refine(A3Y _ _ _ _ _ _ HC.out).mono ?_;rintro e Z ⟨rfl,U,rfl⟩)
    |(go_at_call 170;refine(A61 _ _ _ _ (8 * q-a) _ _ (HD.out.drewN U) (HD.out.ex.choose_spec.2.bd) (by omega) (by omega)).mono ?_;rintro e w2 ⟨rfl,h1,h2,h3⟩))
   go_ret
   exact⟨rfl,HF.out U w2 h2⟩
 ·have aC:(8:Int)<=((8 * q-a:Nat):Int):=by omega
  have J:A3i q V a=6:=by unfold A3i;rw[if_neg (λh=>h8 h.1)]
  rw[J]
  clear J
  go_enter Tryz.func158,Tryz.ntmps158
  go_wp2_with (first
   |(go_at_call 166;refine(A2J _ _ _ _ _ _ H.out).mono ?_;rintro e Z ⟨rfl,rfl⟩)
   |(go_at_call 169;refine(A3Y _ _ _ _ _ _ HC.out).mono ?_;rintro e Z ⟨rfl,U,rfl⟩))
  go_ret
  exact⟨rfl,HF.out U _ (B0.refl _ _)⟩
theorem B7G(b:Nat)(x:Int)(F:Nat->Prop)(w:World)(I:B5S w F b x):
 Calls Tryz.prog 158 #[.pointer (some ⟨b,0,none⟩)] w λe w'=>e= .returned (.int .i64 x)/\w=w':=by
 have J:=I.ne
 have H:=C6x I
 clear I
 go_enter Tryz.func158,Tryz.ntmps158
 go_wp2_with (first
  |(go_at_call 166;refine(B0L _ _ _ _ H.out).mono ?_;rintro e U ⟨rfl,rfl⟩))
 go_ret
 exact⟨rfl,rfl⟩
end
end Go.Proofs.YtbefmjiclpobjaaGreat
