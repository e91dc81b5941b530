import Derived.Test.YtbefmjiclpobjaaGreatMj00
import Derived.Deep.DeepCutAuto
namespace Go.Proofs.YtbefmjiclpobjaaGreat
set_option maxHeartbeats 1600000
set_option maxRecDepth 3000
section
open Go.RowKit
theorem A9r{P:Program}{w:World}{ops:Array Oper}{o:Oper}{a:Act}{K:Act->World->Prop}{Q:Exit->Act->World->Prop}{E:Prop}(aA:o.guard=none)(d s:Operand)(U Y:TypeId)
 (ho:o.op= .call { callee:=.builtin .copy,args:= #[d,s],argTypes:= #[U,Y] }) (V:TypeId) (hu:P.underlying U=some (.slice V)) (aB:(P.info? V).map (·.size)=some 1)
 (b I J W m:Nat) (aC:Value) (Z:a.eval d= .slice (some ⟨b,I,none⟩) J W) (hs:a.eval s=aC)
 (cs:List Value) (hr:Rd w 1 aC m cs) (hn:m<=J) (ht:w.there b I m) (h1:∀v∈cs,v.oneCell'=true)
 (h:K (a.put o.dst (goInt cs.length)) (w.setCells b I cs)):
 if Region.wanted o (yielded ops a.tmps)=true then Oper.wp P o a w K Q else E:=by
 obtain⟨A,c,rfl,aF,_,hl,_,hc⟩:=hr
 have X:cs.length=m:=by simpa using hl
 by_cases h0:0<m
 ·obtain⟨ad,rfl,_,aD⟩:=hc h0
  exact A4H aA d s U Y ho V hu aB b I J W m c ad Z hs cs (by rw[X];exact(Nat.min_eq_left hn).symm) aD (by rw[X];exact ht) h1 h
 ·obtain rfl:m=0:=by omega
  obtain rfl:cs=[]:=List.eq_nil_of_length_eq_zero X
  have hw:Region.wanted o (yielded ops a.tmps)=true:=by simp[Region.wanted,aA]
  rw[if_pos hw]
  have aE:=run_copy_none (P:=P) w U Y o.type V (some ⟨b,I,none⟩) A J W 0 c hu aB (Nat.zero_min _)
  unfold Oper.wp
  simp[execOp,ho,resolve,invoke,builtin,Z,hs,aE,Result.andThen]
  exact h
theorem B2Q{L:List Nat}{o x:Nat}{l:List Nat}(h:o+(l.length+1)<=L.length):R9 (L.set o x) (o+1) l=R9 L o (x::l):=by
 have U:o<L.length:=by omega
 unfold R9
 rw[List.set_eq_take_append_cons_drop,if_pos U]
 have I:(L.take o++x::L.drop (o+1)).take (o+1)=L.take o++[x]:=by
  rw[List.take_append,List.length_take,Nat.min_eq_left (by omega),List.take_of_length_le (by rw[List.length_take];omega),show o+1-o=1 by omega]
  simp
 have J:(L.take o++x::L.drop (o+1)).drop (o+1+l.length)=L.drop (o+(l.length+1)):=by
  rw[List.drop_append,List.length_take,Nat.min_eq_left (by omega),List.drop_of_length_le (by rw[List.length_take];omega),show o+1+l.length-o=l.length+1 by omega]
  simp only[List.nil_append,List.drop_succ_cons,List.drop_drop]
  congr 1;omega
 rw[I,J,List.append_assoc,List.append_assoc,List.append_assoc]
 simp
theorem Sl.setCells8{F:Nat->Prop}{g N c:Nat}:∀(l:List Nat) (o:Nat) (L:List Nat) (w:World),Sl w F 5 1 (.slice (some ⟨g,0,none⟩) N c) N (L.map u8)->o+l.length<=N->
 Sl (w.setCells g o (l.map u8)) F 5 1 (.slice (some ⟨g,0,none⟩) N c) N ((R9 L o l).map u8)
 |[],o,L,w,h,_=>by simpa[World.setCells,R9]using h
 |x::l,o,L,w,h,hl=>by
  have U:L.length=N:=by have:=h.own.1;simpa using this
  rw[List.length_cons]at hl
  have J:=h.set8 o x (x:Int) rfl
  have I:=Sl.setCells8 l (o+1) (L.set o x) _ J (by omega)
  rw[B2Q (by omega)]at I
  exact I
theorem Sl.there8{w:World}{F:Nat->Prop}{g N c o m:Nat}{L:List Nat}(h:Sl w F 5 1 (.slice (some ⟨g,0,none⟩) N c) N (L.map u8))(U:o+m<=N):w.there g o m:=λj J=>by
 have I:L.length=N:=by have:=h.own.1;simpa using this
 exact⟨by rw[h.at8 (k:=o+j) (by omega) (by omega)];rfl,h.own.frozenAt (o+j)⟩
def txt(l:List Nat):ByteArray:=strOfNums (l.map Int.ofNat)
theorem C0i{a b:List Nat}(J:∀x∈a,x<256)(U:∀x∈b,x<256)(h:txt a=txt b):a=b:=by
 have I:=congrArg (λs=>s.data.toList) h
 simp only[txt,strOfNums_data,List.map_map]at I
 have e:∀l:List Nat,(∀x∈l,x<256)->l=((l.map ((λn:Int=>UInt8.ofNat n.toNat)∘Int.ofNat)).map UInt8.toNat):=λl V=>by
  rw[List.map_map]
  conv=>lhs;rw[<-List.map_id l]
  refine List.map_congr_left λx W=>?_
  have:=V x W
  simp[Function.comp]
  omega
 rw[e a J,e b U,I]
theorem A6v{w:World}{A:Option Addr}{n c:Nat}{l:List Nat}(h:Rd w 1 (.slice A n c) n (l.map u8)):(convert 54 9 (.slice A n c)).run Tryz.prog w= .ok (.string (txt l)) w:=by
 have U:l.length=n:=by obtain⟨_,_,_,_,_,h,_⟩:=h;simpa using h
 obtain⟨A',c',e,_,_,_,hA,X⟩:=h
 injection e with e1 e2 e3
 subst e1 e3
 by_cases V:0<n
 ·obtain⟨I,rfl,hb,J⟩:=X V
  obtain⟨b,o,Z⟩:=I
  have W:=J 0 _ (List.getElem?_eq_getElem (by simp;omega))
  have Y:Z=none:=by simpa[Addr.add]using World.cell?_spot W
  subst Y
  refine run_convert_bytes_arg (P:=Tryz.prog) w 54 5 Tryz.underlying54 Tryz.underlying5 b o n c (l.map Int.ofNat) (by simp[U]) (λi hi=>?_) 9 Tryz.underlying9
  have h:=J i (u8 l[i]) (by rw[List.getElem?_map,List.getElem?_eq_getElem (by omega)];rfl)
  rw[add_none]at h
  rw[h,List.getD_eq_getElem?_getD,List.getElem?_map,List.getElem?_eq_getElem (by omega)]
  rfl
 ·obtain rfl:n=0:=by omega
  obtain rfl:l=[]:=List.eq_nil_of_length_eq_zero U
  have:=run_convert_bytes_string (P:=Tryz.prog) w 54 9 5 A 0 c Tryz.underlying54 Tryz.underlying5 Tryz.underlying9
  rw[this]
  cases A with
  |none=>simp[Conv.bytesToString];rfl
  |some I=>
   rw[run_bytesToString w I 0 c [] (by simpa using run_loadCells_list (P:=Tryz.prog) w I [] (by simp))]
   rfl
theorem A4J(Z v2:Value)(n1 n2:Nat)(l1 l2:List Nat)(w:World)(I:Rd w 1 Z n1 (l1.map u8))(J:Rd w 1 v2 n2 (l2.map u8))(V:∀x∈l1,x<256)(W:∀x∈l2,x<256):
 Calls Tryz.prog 72 #[Z,v2] w λe w'=>e= .returned (.bool (decide (l1=l2)))/\w=w':=by
 obtain⟨A1,c1,rfl,_,_⟩:=I.form
 obtain⟨A2,c2,rfl,_,_⟩:=J.form
 have e1:=A6v I
 have e2:=A6v J
 have e:((txt l1).toList==(txt l2).toList)=decide (l1=l2):=by
  by_cases h:l1=l2
  ·subst h;simp
  ·rw[decide_eq_false h,beq_eq_false_iff_ne]
   refineλU=>h (C0i V W ?_)
   rw[ByteArray.toList_eq,ByteArray.toList_eq]at U
   exact ByteArray.ext (Array.ext' U)
 obtain⟨s1,X⟩:∃s,s=txt l1:=⟨_,rfl⟩
 obtain⟨s2,Y⟩:∃s,s=txt l2:=⟨_,rfl⟩
 rw[<-X]at e1 e
 rw[<-Y]at e2 e
 rw[<-e]
 clear I J V W X Y e
 go_enter Tryz.func72,Tryz.ntmps72
 go_wp2
 go_ret
 exact⟨rfl,rfl⟩
end
section
open Go.RowKit
theorem C0j(s:Nat)(w:World)(h:s<4294967296):Calls Tryz.prog 238 #[.int .u32 s] w λe w'=>e= .returned (.int .u32 ((s%65536:Nat):Int))/\w=w':=by
 have e:bits .and .u32 (s:Int) 65535=((s%65536:Nat):Int):=by
  have I:=u32_and_nat s 65535 h (by decide)
  rw[Nat.and_two_pow_sub_one_eq_mod s 16]at I
  exact I
 go_enter Tryz.func238,Tryz.ntmps238
 go_wp2
 go_ret
 exact⟨rfl,rfl⟩
theorem B75(s:Nat)(w:World):Calls Tryz.prog 239 #[.int .u32 s] w λe w'=>e= .returned (.int .u32 ((s/65536:Nat):Int))/\w=w':=by
 go_enter Tryz.func239,Tryz.ntmps239
 go_wp2
 go_ret
 exact⟨rfl,rfl⟩
def C20(p:Nat×Nat)(l:List Nat)(I:IntKind)(t5 t6 t17:Value):Prop:=
 ∃k a b:Nat,k<=l.length/\t17= .int .i64 (k:Int)/\t5= .int I (a:Int)/\t6= .int I (b:Int)/\A3w p (l.take k)=(a,b)/\a<65535/\b<65535
theorem B5J{l:List Nat}{k a b:Nat}{p:Nat×Nat}(h:k<l.length)(e:A3w p (l.take k)=(a,b)):A3w p (l.take (k+1))=((a+l[k])%65535,(b+(a+l[k])%65535)%65535):=by
 rw[List.take_succ_eq_append_getElem h,B59,e];rfl
theorem B76(a b:Nat)(J:a<65535)(U:b<65535):bits .or .u32 ((b:Int) * 65536) (a:Int)=((A7S (b,a).swap:Nat):Int):=by
 have I:=u32_or_nat (b * 65536) a (by omega) (by omega)
 rw[Go.nat_join 16 _ _ (by omega) (by omega)]at I
 exact I
theorem B77(s:Nat)(v:Value)(l:List Nat)(w:World)(h:s<4294967296)(hv:Rd w 1 v l.length (l.map u8))(hl:∀x∈l,x<256):
 Calls Tryz.prog 225 #[.int .u32 s,v] w λe w'=>e= .returned (.int .u32 ((A7S (A3w (fof s) l):Nat):Int))/\w=w':=by
 obtain⟨A,c,rfl,aD,aC⟩:=hv.form
 unfold maxLen at aC
 have Y:=C6x hv
 have HL:=C6x hl
 obtain⟨n,U⟩:∃n,n=l.length:=⟨_,rfl⟩
 rw[<-U]at aD Y⊢
 have J:=C6x U
 clear hv hl U
 go_enter Tryz.func225,Tryz.ntmps225
 go_wp2_with (first
  |(go_at_call 238;refine(C0j _ _ h).mono ?_;rintro e w1 ⟨rfl,rfl⟩)
  |(go_at_call 239;refine(B75 _ _).mono ?_;rintro e w1 ⟨rfl,rfl⟩))
 go_loop [5,6,17] (C20 (fof s) l .u32) (λ_ _ t=>n-(intOf t).toNat)
 case atStart=>exact⟨0,s%65536%65535,s/65536%65535,Nat.zero_le _,rfl,rfl,rfl,rfl,Nat.mod_lt _ (by decide),Nat.mod_lt _ (by decide)⟩
 case round=>
  obtain⟨k,a,b,hk,rfl,rfl,rfl,he,ha,hb⟩:=hrel
  rw[<-J.out]at hk
  have W:=C6x he
  clear he
  by_cases aE:k<n
  ·obtain⟨g,o,rfl,_,Z⟩:=Y.out.cells (by omega) (by decide)
   have I:k<l.length:=by have:=J.out;omega
   have c1:w.cell? ⟨g,o+k,none⟩=some (.int .u8 (l[k]:Int)):=Z k _ (by rw[List.getElem?_map,List.getElem?_eq_getElem I];rfl)
   obtain⟨x,V⟩:∃x,x=l[k]:=⟨_,rfl⟩
   have aF:x<256:=by rw[V];exact HL.out _ (List.getElem_mem _)
   have X:=C6x (B5J I W.out)
   rw[<-V]at c1 X
   have aB:=C6x I
   clear Z V I
   go_wp2
   go_round
   case rel=>exact⟨k+1,_,_,aB.out,by go_num,by go_num,by go_num,X.out,Nat.mod_lt _ (by decide),Nat.mod_lt _ (by decide)⟩
   case measure=>simp[intOf];omega
  ·obtain rfl:k=n:=by omega
   have hj:=B76 a b ha hb
   have e:A3w (fof s) l=(a,b):=by
    rw[<-W.out,List.take_of_length_le (by have:=J.out;omega)]
   have aA:=C6x e
   clear e
   go_wp2
   go_ret
   rw[aA.out]
   exact⟨rfl,rfl⟩
theorem B78(v:Value)(l:List Nat)(w:World)(hv:Rd w 1 v l.length (l.map u8))(I:∀x∈l,x<256):
 Calls Tryz.prog 213 #[v] w λe w'=>e= .returned (.int .u32 ((A7S (A3w (0,0) l):Nat):Int))/\w=w':=by
 have U:=C6x hv
 have J:=C6x I
 clear hv I
 go_enter Tryz.func213,Tryz.ntmps213
 go_wp2_with (first
  |(go_at_call 225;refine(B77 0 _ l _ (by decide) U.out J.out).mono ?_;rintro e V ⟨rfl,rfl⟩))
 go_ret
 exact⟨rfl,rfl⟩
end
section
open Go.RowKit
theorem A2G{a x b y:List Nat}{n:Nat}(I:a.length=n)(h:y.length=x.length):R9 (a++(x++b)) n y=a++(y++b):=by
 subst I
 unfold R9
 rw[List.take_left' rfl,h,<-List.append_assoc,<-List.length_append,List.drop_left' rfl,List.append_assoc]
def B79(p:Pc):List Nat:=R9 (List.replicate 128 0) 0 (be 8 (Q6 p.e p.c))
def B5K(p:Pc):List Nat:=((B79 p).set 8 (flg p.f p.g)).set 9 p.d.length
def A9s(p:Pc):List Nat:=R9 (B5K p) 10 p.d
def B7A(p:Pc):List Nat:=R9 (A9s p) 116 (be 4 (A7S (A3w (0,0) ((A9s p).take 116))))
def C4f(p:Pc):List Nat:=R9 (B7A p) 120 (be 8 (Q6 p.e p.c))
theorem C0k(p:Pc):B5K p=(be 8 (Q6 p.e p.c)++[flg p.f p.g,p.d.length])++List.replicate 118 0:=by
 have e:List.replicate 128 0=[]++(List.replicate 8 0++List.replicate 120 0):=by simp
 unfold B5K B79
 rw[e,A2G (n:=0) rfl (by simp[C7]),List.nil_append,List.set_append_right _ _ (by simp[C7]),List.set_append_right _ _ (by simp[C7]),C7,List.append_assoc]
 rfl
theorem B4i{p:Pc}(h:p.d.length<=106):A9s p=front p++List.replicate 12 0:=by
 have e:List.replicate 118 0=List.replicate p.d.length 0++(List.replicate (106-p.d.length) 0++List.replicate 12 0):=by
  rw[List.replicate_append_replicate,List.replicate_append_replicate];congr 1;omega
 unfold A9s
 rw[C0k,e,A2G (by simp[C7]) (by simp)]
 simp[front]
theorem A30{p:Pc}(h:p.d.length<=106):(A9s p).take 116=front p:=by
 rw[B4i h,List.take_left' (U3 h)]
theorem C0l{p:Pc}(h:p.d.length<=106):B7A p=(front p++be 4 (A7S (A3w (0,0) (front p))))++List.replicate 8 0:=by
 have e:List.replicate 12 0=List.replicate 4 0++List.replicate 8 0:=by decide
 unfold B7A
 rw[A30 h,B4i h,e,A2G (U3 h) (by simp[C7]),List.append_assoc]
theorem C0m{p:Pc}(h:p.d.length<=106):C4f p=E8 p:=by
 have e:List.replicate 8 0=List.replicate 8 0++([]:List Nat):=by simp
 unfold C4f
 rw[C0l h,e,A2G (by rw[List.length_append,U3 h,C7]) (by simp[C7]),List.append_nil,E8,List.append_assoc]
theorem B5L{w:World}{z:Nat}(h:w.ownsRow 0 5 1 (.slice (some ⟨z,0,none⟩) 128 128) 128 (List.replicate 128 (.int .u8 0))):Sl w (λj=>j=z) 5 1 (.slice (some ⟨z,0,none⟩) 128 128) 128 ((List.replicate 128 0).map u8):=by
 have e:(List.replicate 128 0).map u8=List.replicate 128 (.int .u8 0):=by rw[List.map_replicate];rfl
 rw[e]
 exact⟨h,λk I=>by simp[Value.ownBlock]at I;exact I.symm,λk I=>by rw[I];exact(h.lt z rfl).2⟩
structure A1a (w0:World) (p:Pc) (v:Value) (b z:Nat) (L:List Nat) (w:World):Prop where
 blk:C3 w b 201 #[.int .u64 (p.e:Int),.int .u64 (p.c:Int),.bool p.f,.bool p.g,v]
 rd:Rd w 1 v p.d.length (p.d.map u8)
 sl:Sl w (λj=>j=z) 5 1 (.slice (some ⟨z,0,none⟩) 128 128) 128 (L.map u8)
 adv:B0 B5 w0 (λj=>j=z) w
 ne:b≠z
 vne:∀k,v.ownBlock=some k->0<p.d.length->k≠z
section
variable {w0 w w':World} {p:Pc} {v:Value} {b z:Nat} {L L':List Nat}
theorem A1a.step(h:A1a w0 p v b z L w)(W:Sl w' (λj=>j=z) 5 1 (.slice (some ⟨z,0,none⟩) 128 128) 128 (L'.map u8))(I:B0 (λj=>j=z) w (λj=>j=z) w'):A1a w0 p v b z L' w':=
 ⟨h.blk.keep (I.block b h.blk.lt h.ne),h.rd.far (λk J V U=>I.block k U (h.vne k J V)) I.size,W,h.adv.trans I,h.ne,h.vne⟩
theorem A1a.same(h:A1a w0 p v b z L w)(I:B0 B5 w B5 w'):A1a w0 p v b z L w':=
 h.step (h.sl.far I (λ_ h _=>h)) (I.same (λ_ h=>h.elim))
theorem A1a.drew(h:A1a w0 p v b z L w):A1a w0 p v b z L w.drew:=h.same (B0.refl _ _).drew
theorem A1a.set8(h:A1a w0 p v b z L w)(k y:Nat):A1a w0 p v b z (L.set k y) (w.setCell ⟨z,k,none⟩ (.int .u8 (y:Int))):=
 h.step (h.sl.set8 k y _ rfl) ((B0.refl (λj=>j=z) w).setCell (p:=⟨z,k,none⟩) (.inl rfl) _)
theorem A1a.copy(h:A1a w0 p v b z L w)(o:Nat)(l:List Nat)(I:o+l.length<=128):A1a w0 p v b z (R9 L o l) (w.setCells z o (l.map u8)):=
 h.step (h.sl.setCells8 l o L w I) (B0.lsetCells _ _ _ (B0.refl (λj=>j=z) w) (.inl rfl))
theorem A1a.cell(h:A1a w0 p v b z L w){k:Nat}(I:k<128):∃u,w.cell? ⟨z,k,none⟩=some u:=by
 have J:L.length=128:=by have:=h.sl.own.1;simpa using this
 exact⟨_,h.sl.at8 I (by omega)⟩
theorem A1a.first(h:A1a w0 p v b z L w){t:Nat}(I:t<=128):Rd w 1 (.slice (some ⟨z,0,none⟩) t 128) t ((L.take t).map u8):=h.sl.rd.front I
end
theorem B4j(p:Pc)(v:Value)(w:World)(cG:p.ok)(hv:Rd w 1 v p.d.length (p.d.map u8))(hd:∀x∈p.d,x<256):
 Calls Tryz.prog 194 #[.agg #[.int .u64 (p.e:Int),.int .u64 (p.c:Int),.bool p.f,.bool p.g,v]] w λe w'=>
  ∃v' F,e= .returned (.tuple #[v',.int .i64 0])/\Sl w' F 5 1 v' 128 ((E8 p).map u8)/\B0 B5 w F w':=by
 obtain⟨i0,hi,bH,bI,bJ⟩:=info_parts Tryz.infoU8
 obtain⟨he,hc,hm⟩:=cG
 obtain⟨A,c,rfl,cF,cE⟩:=hv.form
 obtain⟨b,hb⟩:∃b,b=w.heap.size:=⟨_,rfl⟩
 obtain⟨W,hW⟩:∃W,W=w.alloc (.cells #[.int .u64 (p.e:Int),.int .u64 (p.c:Int),.bool p.f,.bool p.g,.slice A p.d.length c] 201):=⟨_,rfl⟩
 have Y:C3 W b 201 #[.int .u64 (p.e:Int),.int .u64 (p.c:Int),.bool p.f,.bool p.g,.slice A p.d.length c]:=by rw[hW,hb];exact C3.new _ _ _
 have hV:Rd W 1 (.slice A p.d.length c) p.d.length (p.d.map u8):=by rw[hW];exact hv.up _
 have hA:B0 B5 w B5 W:=by rw[hW];exact(B0.refl _ _).alloc _
 have aZ:W.heap.size=b+1:=by rw[hW,hb];simp
 have bA:∀k,(Value.slice A p.d.length c).ownBlock=some k->0<p.d.length->k≠W.heap.size:=by
  intro k hk hn e
  obtain⟨A',c',e',_,_,_,_,cD⟩:=hV
  obtain⟨ad,e2,cK,_⟩:=cD hn
  injection e' with e1 _ _
  subst e1 e2
  simp[Value.ownBlock]at hk
  omega
 have c0:=Y.cell 0
 have c1:=Y.cell 1
 have c2:=Y.cell 2
 have c3:=Y.cell 3
 have c4:=Y.cell 4
 have HW:=C6x hW
 have HB:=C6x Y
 have HV:=C6x hV
 have HA:=C6x hA
 have HE:=C6x he
 have HC:=C6x hc
 have I:=C6x hm
 have HD:=C6x hd
 have HI:=C6x hi
 have cA:=C6x bH
 have cB:=C6x bI
 have cC:=C6x bJ
 have bU:=C6x aZ
 have bM:=C6x bA
 obtain⟨m,aI⟩:∃m,m=p.d.length:=⟨_,rfl⟩
 have V:=C6x aI
 have cL:(m:Int)<=106:=by omega
 obtain⟨e,aF⟩:∃e,e=p.e:=⟨_,rfl⟩
 obtain⟨n,aJ⟩:∃n,n=p.c:=⟨_,rfl⟩
 obtain⟨f,aG⟩:∃f,f=p.f:=⟨_,rfl⟩
 obtain⟨g,aH⟩:∃g,g=p.g:=⟨_,rfl⟩
 rw[<-aI,<-aF,<-aJ,<-aG,<-aH]at HW⊢
 rw[<-aI]at c4
 rw[<-aF]at c0
 rw[<-aJ]at c1
 rw[<-aG]at c2
 rw[<-aH]at c3
 have Z:=C6x aF
 have aA:=C6x aJ
 have aM:=C6x aG
 have aN:=C6x aH
 have bK:=C6x hb
 clear hW Y hV hA he hc hm hd hi bH bI bJ aZ bA aI aF aJ aG aH hv hb cF cE
 go_enter Tryz.func194,Tryz.ntmps194
 go_wp2_with fail
 rw[<-HW.out,<-bK.out]
 refine(A3V e n (by rw[Z.out];exact HE.out) (by rw[aA.out];exact HC.out) _).mono ?_
 rintro x w1 ⟨rfl,rfl⟩
 go_wp2_with (first
  |(at_make;refine wpList_make_full _ rfl _ _ 54 rfl 0 5 i0 (.int .u8 0) 1 Tryz.underlying54 HI.out cA.out cB.out .i64 .i64 _ _ 128 rfl rfl rfl rfl (by rw[cC.out];decide) (by decide) (Nat.zero_le _) ?_;intro w1 bB J;have aR:=A07 bB;rw[B5H _ rfl]at aR;have aQ:B0 B5 W (λj=>j=W.heap.size) w1:=⟨J.os,J.tape,J.output,J.size,λj hj _=>J.block j hj (by simp),λj hj=>.inr (by rw[hj];exact Nat.le_refl _)⟩;have bD:=B5L aR)
  |fail)
 have hS:A1a w p (.slice A m c) b W.heap.size (List.replicate 128 0) w1:=
  ⟨by rw[V.out];exact HB.out.keep (J.block b HB.out.lt (by simp)),(by rw[V.out];exact HV.out.far (λk hk hn hl=>J.block k hl (by simp)) aQ.size),bD,HA.out.trans aQ,by have:=bU.out;omega,by rw[V.out];exact bM.out⟩
 obtain⟨z,hz⟩:∃z,z=W.heap.size:=⟨_,rfl⟩
 rw[<-hz]at hS⊢
 have aW:=C6x hS
 have cJ:=C6x hS.ne
 clear bB J aR aQ bD hS hz
 refine(A6u _ z 0 128 8 128 128 _ (Q6 e n) _ aW.out.sl (by decide) (by decide) (A6s (by rw[Z.out];exact HE.out) (by rw[aA.out];exact HC.out)) (by decide)).mono ?_
 rintro x w2 ⟨rfl,h2,a2⟩
 have U:=aW.out.step h2 a2
 have e1:R9 (List.replicate 128 0) 0 (be 8 (Q6 e n))=B79 p:=by rw[Z.out,aA.out];rfl
 rw[e1]at U
 have c0:=U.blk.cell 0
 have c1:=U.blk.cell 1
 have c2:=U.blk.cell 2
 have c3:=U.blk.cell 3
 have c4:=U.blk.cell 4
 rw[<-Z.out]at c0
 rw[<-aA.out]at c1
 rw[<-aM.out]at c2
 rw[<-aN.out]at c3
 have bQ:=C6x U
 clear h2 a2 U e1
 go_wp2_with fail
 refine(A8t _ _ _ _ _ _).mono ?_
 rintro x w3 ⟨rfl,bG⟩
 have aL:A1a w p (.slice A m c) b z (B79 p) w3:=bQ.out.same (by rw[bG];exact(B0.refl _ _).alloc _)
 clear c0 c1 c2 c3 c4 bG
 obtain⟨y8,cM⟩:=aL.cell (k:=8) (by decide)
 have f8:=aL.sl.own.frozenAt 8
 have aC:=aL.set8 8 (flg p.f p.g)
 rw[<-aM.out,<-aN.out]at aC
 have c4:=aC.blk.cell 4
 obtain⟨y9,cN⟩:=aC.cell (k:=9) (by decide)
 have f9:=aC.sl.own.frozenAt 9
 have aD:=aC.set8 9 p.d.length
 have e5:((B79 p).set 8 (flg f g)).set 9 p.d.length=B5K p:=by rw[aM.out,aN.out];rfl
 rw[e5,<-V.out]at aD
 have k4:=aD.drew.blk.cell 4
 have bF:=aD.drew.sl.there8 (o:=10) (m:=m) (by have:=V.out;have:=I.out;omega)
 have aE:=aD.drew.copy 10 p.d (by have:=I.out;omega)
 have aS:=aD.drew.rd
 rw[<-V.out]at aS
 obtain⟨w6,aV⟩:∃w6,w6=(((w3.setCell ⟨z,8,none⟩ (.int .u8 (flg f g:Int))).setCell ⟨z,9,none⟩ (.int .u8 (m:Int))).drew.setCells z 10 (p.d.map u8)):=⟨_,rfl⟩
 rw[<-aV]at aE
 have k6:=aE.blk.cell 4
 have bO:=C6x aS
 have bS:=C6x bF
 have aX:=C6x aE
 have bT:=C6x aV
 have K6:=C6x k6
 have hX:((A9s p).take 116).length=116:=by rw[A30 I.out,U3 I.out]
 have aO:∀x∈(A9s p).take 116,x<256:=by rw[A30 I.out];exact B09 I.out HD.out
 have aK:=aE.drew.first (t:=116) (by decide)
 have e6:R9 (B5K p) 10 p.d=A9s p:=rfl
 rw[e6]at aK
 obtain⟨X,aP⟩:∃X,X=(A9s p).take 116:=⟨_,rfl⟩
 obtain⟨y,hy⟩:∃y,y=A7S (A3w (0,0) X):=⟨_,rfl⟩
 have cH:y<4294967296:=by rw[hy];exact C0e _ (C0d _ _ ⟨by decide,by decide⟩)
 have cO:(y:Int)<4294967296:=by omega
 rw[<-aP]at hX aO aK
 have bC:Rd w6.drew 1 (.slice (some ⟨z,0,none⟩) 116 128) X.length (X.map u8):=by rw[hX];exact aK
 have bP:=C6x bC
 have bX:=C6x aO
 have bY:=C6x aP
 have HY:=C6x hy
 have bV:=C6x (show IntKind.u64.wrap (y:Int)=(y:Int)by simp only[IntKind.wrap_u64];omega)
 have bZ:=C6x (show y<18446744073709551616 by omega)
 clear aL aC aD e5 aE bF aS aV k6 hX aO aK e6 aP hy cH bC
 go_wp2_with fail
 refine D6 (S:=(λw'=>w'.cell? ⟨b,4,none⟩=some (.slice A m c))) (by first|exact k4|exact K6.out) (λhH=>?_)
 refine C6y 0 rfl ?_
 refine C6y 1 rfl ?_
 refine C6y 2 rfl ?_
 refine C6y 3 rfl ?_
 refine C6z 4 rfl (λK hK=>?_)
 refine A9r rfl (.tmp 38) (.tmp 40) 54 54 rfl 5 Tryz.underlying54 B74 z 10 106 118 m (.slice A m c) rfl rfl (p.d.map u8) bO.out (by have:=V.out;have:=I.out;omega) bS.out (T5 _) ?_
 rw[<-bT.out]
 refine C60 hK (by first|exact k4|exact K6.out) ?_
 clear hK K hH
 intro hH
 try simp only[Act.put,sA,sB,sC]
 refine wpAnyH_done (by kernel_rfl) ?_ _
 go_wp2_with fail
 refine D6 (S:=(λ_=>True)) (by first|trivial) (λhH=>?_)
 refine C61 0 rfl ?_
 refine C61 1 rfl ?_
 refine C61 2 rfl ?_
 refine C61 3 rfl ?_
 refine C6z 4 rfl (λK hK=>?_)
 go_simp
 refine(B78 _ X _ bP.out bX.out).mono ?_
 rintro x w7 ⟨rfl,rfl⟩
 rw[<-HY.out]
 go_wp2_with fail
 refine C60 hK (by first|trivial) ?_
 clear hK K hH
 intro hH
 try simp only[Act.put,sA,sB,sC]
 refine C61 5 rfl ?_
 refine C6z 6 rfl (λK hK=>?_)
 go_simp
 rw[bV.out]
 refine(A6u _ z 116 128 4 128 12 _ y _ aX.out.drew.sl (by decide) (by decide) bZ.out (by decide)).mono ?_
 rintro x w8 ⟨rfl,h8,a8⟩
 have bR:=C6x (aX.out.drew.step h8 a8)
 clear h8 a8
 go_wp2_with fail
 refine C60 hK (by first|trivial) ?_
 clear hK K hH
 intro hH
 try simp only[Act.put,sA,sB,sC]
 refine wpAnyH_done (by kernel_rfl) ?_ _
 go_wp2_with fail
 have aT:=bR.out
 have e8:R9 (R9 (B5K p) 10 p.d) 116 (be 4 y)=B7A p:=by rw[HY.out,bY.out];rfl
 rw[e8]at aT
 have aY:=C6x aT
 clear aT e8
 refine(A6u _ z 120 128 8 128 8 _ (Q6 e n) _ aY.out.sl (by decide) (by decide) (A6s (by rw[Z.out];exact HE.out) (by rw[aA.out];exact HC.out)) (by decide)).mono ?_
 rintro x w9 ⟨rfl,h9,a9⟩
 have aU:=aY.out.step h9 a9
 have e9:R9 (B7A p) 120 (be 8 (Q6 e n))=E8 p:=by rw[Z.out,aA.out,<-C0m I.out];rfl
 rw[e9]at aU
 have aB:=C6x aU
 clear h9 a9 aU e9
 go_wp2_with fail
 go_ret2
 first
  |exact⟨_,_,rfl,aB.out.sl,aB.out.adv⟩
  |exact⟨_,rfl,_,aB.out.sl,aB.out.adv⟩
  |exact⟨rfl,_,aB.out.sl,aB.out.adv⟩
end
section
open Go.RowKit
theorem C0n(p:Pc)(v:Value)(w:World)(W:¬p.ok)(hv:Rd w 1 v p.d.length (p.d.map u8)):
 Calls Tryz.prog 194 #[.agg #[.int .u64 (p.e:Int),.int .u64 (p.c:Int),.bool p.f,.bool p.g,v]] w λe w'=>e= .returned (.tuple #[.slice none 0 0,.int .i64 2])/\B0 B5 w B5 w':=by
 obtain⟨e,n,f,g,d⟩:=p
 obtain⟨A,c,rfl,_,U⟩:=hv.form
 unfold maxLen at U
 by_cases I:e<=16777215/\n<=1099511627775
 ·have X:(106:Int)<(d.length:Int):=by
   have:¬d.length<=106:=λh=>W ⟨I.1,I.2,h⟩
   omega
  obtain⟨m,V⟩:∃m,m=d.length:=⟨_,rfl⟩
  rw[<-V]at X
  simp only[<-V]
  have J:=C6x I
  clear I W hv V U
  go_enter Tryz.func194,Tryz.ntmps194
  go_wp2_with (first
   |(go_at_call 195;refine(A3V e n J.out.1 J.out.2 _).mono ?_;rintro x Y ⟨rfl,rfl⟩)
   |fail)
  go_ret2
  exact⟨rfl,(B0.refl _ _).alloc _⟩
 ·have J:=C6x I
  clear I W hv U
  go_enter Tryz.func194,Tryz.ntmps194
  go_wp2_with (first
   |(go_at_call 195;refine(B4g e n J.out _).mono ?_;rintro x Y ⟨rfl,rfl⟩)
   |fail)
  go_ret2
  exact⟨rfl,(B0.refl _ _).alloc _⟩
theorem Sl.lup1{w:World}{F:Nat->Prop}{e:TypeId}{J n:Nat}{v:Value}{U:List Value}(h:Sl w F e J v n U)(o:Obj):Sl (w.alloc o) F e J v n U:=
 ⟨J2 h.own λk I=>Below.heap_alloc _ _ _ (h.bd k (h.inF k I)),h.inF,λk I=>Nat.lt_of_lt_of_le (h.bd k I) (by simp)⟩
theorem B0.over'{F':Nat->Prop}{w I w2:World}(h:B0 B5 w B5 I)(k:B0 B5 I F' w2):B0 B5 w F' w2:=h.trans k
end
section
open Go.RowKit
theorem C3.lsetCells{g:Nat}{t:TypeId}:∀(V:List Value) (o:Nat) (w:World) (cs:Array Value),C3 w g t cs->∃I,C3 (w.setCells g o V) g t I/\I.size=cs.size
 |[],_,_,cs,h=>⟨cs,h,rfl⟩
 |v::r,o,w,cs,h=>by
  rw[World.setCells]
  obtain⟨I,J,U⟩:=C3.lsetCells r (o+1) _ _ (h.set_ o v)
  exact⟨I,J,by rw[U];simp⟩
theorem C3.putAll{w:World}{g:Nat}{t:TypeId}{C D:Array Value}(h:C3 w g t C)(Z:D.size=C.size):C3 (w.setCells g 0 D.toList) g t D:=by
 obtain⟨U,I,Y⟩:=C3.lsetCells D.toList 0 w C h
 have e:U=D:=by
  apply Array.ext (by omega)
  intro k W X
  have J:=World.cell?_setCells_in g D.toList 0 w (λj V=>by
   rw[h.cell (0+j),Nat.zero_add,Array.getElem?_eq_getElem (by simp at V;omega)];rfl) k (by simpa using X)
  rw[Nat.zero_add,I.cell k,Array.getElem?_eq_getElem W]at J
  simpa using J
 rw[<-e];rw[e]at I⊢;exact I
theorem C3.five{w:World}{b:Nat}{t:TypeId}{I J U V W:Value}(h:C3 w b t #[I,J,U,V,W]):w.cell? ⟨b,0,none⟩=some I/\w.cell? ⟨b,1,none⟩=some J/\w.cell? ⟨b,2,none⟩=some U/\w.cell? ⟨b,3,none⟩=some V/\w.cell? ⟨b,4,none⟩=some W:=
 ⟨h.cell 0,h.cell 1,h.cell 2,h.cell 3,h.cell 4⟩
theorem C3.there{w:World}{g:Nat}{t:TypeId}{C:Array Value}(h:C3 w g t C):w.there g 0 C.size:=λj I=>
 ⟨by rw[h.cell (0+j),Nat.zero_add,Array.getElem?_eq_getElem I];rfl,h.frozen (0+j)⟩
theorem A02:(Tryz.prog.info? 201).map (·.size)=some 5:=by kernel_rfl
def pc5(e c:Int)(f g:Bool)(v:Value):Array Value:= #[.int .u64 e,.int .u64 c,.bool f,.bool g,v]
theorem A2H(e c:Int)(f g:Bool)(A:Option Addr)(m k:Nat):(pc5 e c f g (.slice A m k)).all (·.oneCell')=true:=by simp[pc5,Value.oneCell']
theorem A1n{ops:Array Oper}{o:Oper}{a:Act}{w:World}{Q:Exit->Act->World->Prop}{K:Act->World->Prop}{E:Prop}{t t':TypeId}(Y:(Tryz.prog.info? t).map (·.size)=some 5)(W:o.guard=none)(x y:Operand)(X:o.op= .store t x y)
 (z:Nat) (C D:Array Value) (U:C3 w z t' C) (V:C.size=5) (I:D.size=5) (J:D.all (·.oneCell')=true) (Z:a.eval x= .pointer (some ⟨z,0,none⟩)) (hy:a.eval y= .agg D)
 (h:K (a.put o.dst undef) (w.setCells z 0 D.toList)):if Region.wanted o (yielded ops a.tmps)=true then Oper.wp Tryz.prog o a w K Q else E:=by
 rw[if_pos (by simp[Region.wanted,W])]
 refine wp_store_mid t x y X z 0 D Z hy ?_ (by rw[Y,I]) J h
 have:=U.there
 rw[V]at this
 rw[I];exact this
end
section
open Go.RowKit
theorem Rd.sub{w:World}{b o n c:Nat}{l:List Nat}(h:Rd w 1 (.slice (some ⟨b,o,none⟩) n c) n (l.map u8))(s m c':Nat)(hs:s+m<=n)(U:m<=c')(V:c'<=maxLen):Rd w 1 (.slice (some ⟨b,o+s,none⟩) m c') m (((l.drop s).take m).map u8):=by
 have Z:l.length=n:=by obtain⟨_,_,_,_,_,h,_⟩:=h;simpa using h
 refine⟨_,c',rfl,U,V,by simp;omega,λe=>(by cases e),λY=>?_⟩
 obtain⟨X,o',e,J,W⟩:=h.cells (by omega) (by decide)
 injection e with e
 injection e with e1 e2
 subst e1 e2
 refine⟨_,rfl,J,λj u I=>?_⟩
 rw[List.map_take,List.getElem?_take]at I
 split at I
 ·rw[add_none,Nat.add_assoc]
  exact W (s+j) u (by rw[List.map_drop,List.getElem?_drop]at I;exact I)
 ·cases I
theorem Rd.drew{w:World}{v:Value}{n:Nat}{I:List Value}(h:Rd w 1 v n I):Rd w.drew 1 v n I:=h
theorem Rd.len8{w:World}{v:Value}{n:Nat}{l:List Nat}(h:Rd w 1 v n (l.map u8)):l.length=n:=by obtain⟨_,_,_,_,_,h,_⟩:=h;simpa using h
theorem Rd.adr{w:World}{v:Value}{n:Nat}{l:List Nat}(h:Rd w 1 v n (l.map u8))(V:0<n):∃b o c,v= .slice (some ⟨b,o,none⟩) n c/\b<w.heap.size/\n<=c/\c<=maxLen:=by
 obtain⟨A,c,rfl,I,J⟩:=h.form
 obtain⟨b,o,rfl,U,_⟩:=h.cells V (by decide)
 exact⟨b,o,c,rfl,U,I,J⟩
theorem Rd.at8{w:World}{b o n c:Nat}{l:List Nat}(h:Rd w 1 (.slice (some ⟨b,o,none⟩) n c) n (l.map u8)){k:Nat}(V:k<n):w.cell? ⟨b,o+k,none⟩=some (.int .u8 ((l.getD k 0:Nat):Int)):=by
 have W:=h.len8
 obtain⟨J,X,e,U,I⟩:=h.cells (by omega) (by decide)
 injection e with e
 injection e with e1 e2
 subst e1 e2
 rw[I k (u8 (l.getD k 0)) (by rw[List.getElem?_map,List.getD_eq_getElem?_getD,List.getElem?_eq_getElem (by omega)];rfl)]
 rfl
theorem B7B(v:Value)(l:List Nat)(w:World)(h:Rd w 1 v 128 (l.map u8))(W:∀x∈l,x<256):
 Calls Tryz.prog 120 #[v] w λx w'=>x= .returned (.tuple #[.int .u64 ((R8 (l.take 8)/1099511627776:Nat):Int),.int .u64 ((R8 (l.drop 120)/1099511627776:Nat):Int)])/\∃k,w'=w.drewN k:=by
 have aA:=h.len8
 obtain⟨b,o,c,rfl,_,aB,Z⟩:=h.adr (by decide)
 have I:=h.sub 0 8 c (by decide) (by omega) Z
 have J:=h.sub 120 8 (c-120) (by decide) (by omega) (by omega)
 rw[Nat.add_zero,List.drop_zero]at I
 rw[List.take_of_length_le (by simp;omega)]at J
 unfold maxLen at Z
 have H1:=C6x I
 have H2:=C6x J
 have L1:=C6x (show∀x∈l.take 8,x<256 fromλx X=>W x (List.mem_of_mem_take X))
 have L2:=C6x (show∀x∈l.drop 120,x<256 fromλx X=>W x (List.mem_of_mem_drop X))
 have aD:(120:Int)<=(c:Int):=by omega
 have aE:(8:Int)<=(c:Int):=by omega
 have aC:(128:Int)<=(c:Int):=by omega
 have aF:¬c=120:=by omega
 clear h W aA I J aB
 obtain⟨a,U⟩:∃a,a=R8 (l.take 8):=⟨_,rfl⟩
 obtain⟨d,V⟩:∃d,d=R8 (l.drop 120):=⟨_,rfl⟩
 have HA:=C6x U
 have HD:=C6x V
 rw[<-U,<-V]
 clear U V
 go_enter Tryz.func120,Tryz.ntmps120
 go_wp2_with fail
 refine D6 (S:=(λ_=>True)) (by first|trivial) (λhH=>?_)
 refine C61 0 rfl ?_
 refine C61 1 rfl ?_
 refine C61 4 rfl ?_
 refine C61 5 rfl ?_
 refine C6z 2 rfl (λK hK=>?_)
 go_simp
 refine(A3z _ 8 _ _ H1.out.drew (by decide) L1.out).mono ?_
 rintro x Y ⟨rfl,rfl⟩
 rw[<-HA.out]
 go_wp2_with fail
 refine C60 hK (by first|trivial) ?_
 clear hK K hH
 intro hH
 try simp only[Act.put,sA,sB,sC]
 refine C6z 3 rfl (λK hK=>?_)
 go_simp
 refine(A2F a _).mono ?_
 rintro x Y ⟨rfl,rfl⟩
 go_wp2_with fail
 refine C60 hK (by first|trivial) ?_
 clear hK K hH
 intro hH
 try simp only[Act.put,sA,sB,sC]
 refine C6z 6 rfl (λK hK=>?_)
 go_simp
 refine(A3z _ 8 _ _ H2.out.drew (by decide) L2.out).mono ?_
 rintro x Y ⟨rfl,rfl⟩
 rw[<-HD.out]
 go_wp2_with fail
 refine C60 hK (by first|trivial) ?_
 clear hK K hH
 intro hH
 try simp only[Act.put,sA,sB,sC]
 refine C6z 7 rfl (λK hK=>?_)
 go_simp
 refine(A2F d _).mono ?_
 rintro x Y ⟨rfl,rfl⟩
 go_wp2_with fail
 refine C60 hK (by first|trivial) ?_
 clear hK K hH
 intro hH
 try simp only[Act.put,sA,sB,sC]
 refine C61 8 rfl ?_
 refine C61 9 rfl ?_
 refine wpAnyH_done (by kernel_rfl) ?_ _
 go_wp2_with fail
 go_ret2
 exact⟨rfl,1,rfl⟩
end
end Go.Proofs.YtbefmjiclpobjaaGreat
