import Derived.Test.YtgifkcpdihphlaaGreatDoorMBT
set_option maxHeartbeats 16000000
set_option maxRecDepth 100000
namespace Go.Proofs.YtgifkcpdihphlaaGreatDoor
open Tryz
open Go.RowKit
attribute [-go_sem] Builtin.append_
theorem aB0 (o h eg:Int) (b2:0<=o/\o<=255) (E:0<=h/\h<=255) (y B:Nat) (ind m:Int) (p:Nod) (R:List Nod) (nv lv Y N uv tv:Value) (w:World) (M:Sx y B ind m w nv R) (hc:p.C=0) (ht:p.tail=[])
  (sl:Sl lv p.L.length) (sk:Sl Y p.key.length) (sx:Sl N p.X.length) (su:Sl uv p.U.length) (st:Sl tv p.tail.length) :
  Calls prog 118 #[.pointer (some ⟨y,0,none⟩),.agg #[.int .i64 p.k,lv,.bool p.mem,Y,N,uv,.int .i64 p.C,tv],.string (strOfNums [o]),.string (strOfNums [h]),.int .i64 eg] w fun e w'=>pU y B ind m w (aG [o,h]) R e w':=by
 obtain ⟨la,lc,rfl,_⟩:=sl;obtain ⟨ka,kc,rfl,_⟩:=sk;obtain ⟨xa,xc,rfl,_⟩:=sx;obtain ⟨ua,uc,rfl,_⟩:=su;obtain ⟨ta,tc,rfl,_⟩:=st;obtain ⟨W,u⟩:∃ W,W=w.alloc (Obj.cells #[.int .i64 p.k,.slice la p.L.length lc,.bool p.mem,.slice ka p.key.length kc,.slice xa p.X.length xc,.slice ua p.U.length uc,.int .i64 p.C,.slice ta p.tail.length tc] 49):=⟨_,rfl⟩;have A:w.grownBy W none:=(by rw [u];exact gWA);have HS:=aB (M.K A);have S:=aB A;have H:=aB (cI [o,h] (by intro z hz;simp at hz;omega) (by simp) W);have Z:¬ 9223372036854775807<(strOfNums [o]).size+(strOfNums [h]).size:=(by rw [strOfNums_size,strOfNums_size];simp);have D:p.tail.length=0:=(by rw [ht];rfl);rw [D] at u ⊢;have J:strOfNums [o]++strOfNums [h]=strOfNums [o,h]:=vM [o] [h];rw [hc] at u ⊢;subst u;clear A M
 go_enter func118,ntmps118
 go_wp2_with fail
 refine H.out.mono ?_;rintro e w1 ⟨f,j,rfl,O,g⟩;have HP:=aB O;have G:=aB g;clear H O g;go_wp2;go_ret;exact ⟨f,j,nv,rfl,HP.out.moreB S.out.size (World.grownBy.refl _ _),HS.out.K G.out,fU (aA S.out G.out)⟩
theorem aBI (o cl eg:Int) (j1:0<=o/\o<=255) (f8:0<=cl/\cl<=255) (bs B:Nat) (ind m:Int) (hB:B<=bs) (p:Nod) (R:List Nod) (nv lv kv xv uv tv:Value) (w:World) (hs:Sx bs B ind m w nv R) (b5:zP p) (d6:wN p<=2000000) (hc:p.C=0) (ht:p.tail≠[])
  (rt:RdC B w tv p.tail) (sl:Sl lv p.L.length) (sk:Sl kv p.key.length) (sx:Sl xv p.X.length) (su:Sl uv p.U.length) (st:Sl tv p.tail.length) :
  Calls prog 118 #[.pointer (some ⟨bs,0,none⟩),.agg #[.int .i64 p.k,lv,.bool p.mem,kv,xv,uv,.int .i64 p.C,tv],.string (strOfNums [o]),.string (strOfNums [cl]),.int .i64 eg] w fun e w'=>pU bs B ind m w (cT [aG [o],fM ind (cW p.tail),aI 4,aG [cl]]) R e w':=by
 obtain ⟨la,lc,rfl,_⟩:=sl;obtain ⟨ka,kc,rfl,_⟩:=sk;obtain ⟨xa,xc,rfl,_⟩:=sx;obtain ⟨ua,uc,rfl,_⟩:=su;obtain ⟨ta,tc,rfl,_⟩:=st;obtain ⟨W,E⟩:∃ W,W=w.alloc (Obj.cells #[.int .i64 p.k,.slice la p.L.length lc,.bool p.mem,.slice ka p.key.length kc,.slice xa p.X.length xc,.slice ua p.U.length uc,.int .i64 p.C,.slice ta p.tail.length tc] 49):=⟨_,rfl⟩;have gW:w.grownBy W none:=(by rw [E];exact gWA);have sW:W.heap.size=w.heap.size+1:=(by rw [E];simp);have HS:=aB (hs.K gW);have l7:=hs.lt;have HG:=aB gW;have O:Hid (∀ U:World,_):=fun U=>cI [o] (by intro z hz;simp at hz;omega) (by simp) U;have d5:Hid (∀ U:World,_):=fun U=>cI [cl] (by intro z hz;simp at hz;omega) (by simp) U;have k8:wC p.tail<=2000000:=(by have:=d6;unfold wN at this;omega);have G:=aB (qZ (.slice ta p.tail.length tc) p.tail m W ((rt.K gW).wide (by omega)) b5.t.2 (by omega) HS.out.mx);have b9:Hid (∀ U:World,_):=fun U=>dX 4 U;have k0:((p.tail.length:Int)==0)=false:=(by rw [beq_eq_false_iff_ne];have:=List.length_pos_iff.2 ht;omega);have i7:=lD p.tail;have g8:=cU (cW p.tail);rw [hc] at E ⊢;have zc:W.cell? ⟨w.heap.size,6,none⟩=some (.int .i64 0):=(by rw [E];simp [go_sem]);have Z:=aB zc;have HW:=aB E;rw [E] at G;clear gW hs rt b5 zc E
 go_enter func118,ntmps118
 go_wp2_with fail
 refine G.out.mono ?_;rintro e w1 ⟨v1,rfl,o1,g1⟩;have E:=HW.out;rw [<- E] at o1 g1;clear E;have y6:=g1.cell Z.out (by simp);obtain ⟨F1,b7,b2⟩:=o1.pa;obtain ⟨a1,c1,Y⟩:=o1.sl;have d7:=aB b2;have u:=aB b7;have G1:=aB g1;have c3:=aB (HS.out.K g1);generalize j3:(cW p.tail).length=L1 at Y;subst Y;clear G o1 b2 g1 b7
 go_wp2_with fail
 refine (O.out w1).mono ?_;rintro e w2 ⟨f2,A,rfl,c2,J⟩;have S:=aB (aEA bs nv ind _ _ F1 w2 (c3.out.K J).shp (d7.out.at (fun _ h=>h) J.size (fun k h=>J.block k (u.out k h).2 (by simp))) (fun k h=>Nat.lt_of_lt_of_le (u.out k h).2 J.size) (by omega));have a6:=aB c2;have G2:=aB J;have d4:=aB (c3.out.K J);clear c2 J O
 go_wp2_with fail
 refine S.out.mono ?_;rintro e w3 ⟨f3,j,rfl,c4,g3⟩;have c5:=aB c4;have G3:=aB g3;clear c4 g3 S
 go_wp2_with fail
 refine (b9.out w3).mono ?_;rintro e w4 ⟨f4,y,rfl,b8,g4⟩;have c0:=aB b8;have G4:=aB g4;clear b8 g4 b9
 go_wp2_with fail
 refine (d5.out w4).mono ?_;rintro e w5 ⟨f5,D,rfl,b0,g5⟩;have s1:=G1.out.size;have s2:=G2.out.size;have s3:=G3.out.size;have s4:=G4.out.size;have s5:=g5.size;have N:=aA G4.out g5;have H:=aA G3.out N;have k2:=a6.out.moreB (B:=w.heap.size) (by omega) H;have k3:bT w5 (fun k=>w.heap.size<=k/\k<w5.heap.size) f3 j (fM ind (cW p.tail)):=c5.out.at (fun k hk=>hk.elim (fun h=>⟨by have:=(u.out k h).1;omega,by have:=(u.out k h).2;omega⟩) (fun h=>⟨by have:=h.1;omega,by have:=h.2;omega⟩)) (fun k hk=>N.block k (hk.elim (fun h=>by have:=(u.out k h).2;omega) (fun h=>h.2)) (by simp));have k4:=c0.out.moreB (B:=w.heap.size) (by omega) g5;have k5:=b0.moreB (B:=w.heap.size) (by omega) (World.grownBy.refl _ _);have b6:=aEh (B:=w.heap.size) (by omega) k2 k3 k4 k5;have b3:=aB (rU _ _ _ _ b6 (fun k h=>h.2) (by simp));have gA:=World.grownBy_alloc w5 (Obj.cells #[.func (.func f2) #[] A,.func (.func f3) #[] j,.func (.func f4) #[] y,.func (.func f5) #[] D] 92) none;have GA:=aB (aA H gA);have a4:w5.heap.size<=(w5.alloc (Obj.cells #[.func (.func f2) #[] A,.func (.func f3) #[] j,.func (.func f4) #[] y,.func (.func f5) #[] D] 92)).heap.size:=gA.size;have d8:=aB a4;clear k2 k3 k4 k5 b6 a6 c5 c0 b0 g5 N H gA a4
 go_wp2_with fail
 refine b3.out.mono ?_;rintro e w6 ⟨f6,M,rfl,a8,g6⟩;have d9:=aB a8;have G6:=aB g6;clear a8 g6 b3;go_wp2;go_ret;have s6:=G6.out.size;have hA:=d8.out;refine ⟨f6,M,nv,rfl,d9.out.at (fun k hk=>hk.elim (fun h=>⟨h.1,by have:=h.2;omega⟩) (fun h=>⟨by have:=h.1;omega,h.2⟩)) (fun _ _=>rfl),(d4.out.K GA.out).K G6.out,fU (aA (aA (aA (aA HG.out G1.out) G2.out) GA.out) G6.out)⟩
theorem aAO (o cl eg:Int) (B3:0<=o/\o<=255) (x3:0<=cl/\cl<=255) (K:Int) (mb:Bool) (n5:iT K=o) (o6:iY K=cl) (i8:nH K=eg) (E B:Nat) (ind m:Int) (hB:B<=E) (D6:1<E) (d:Nat) (IT:∀ (R R2:List Nod) (m':Bool) (nv:Value) (w:World),Sx E B ind m w nv R->NsK R->aD aZ d m' (R,())=some (R2,())->Calls prog 86 #[.pointer (some ⟨E,0,none⟩)] w fun e w'=>aCT E B ind m w (gO (aF ind d) R) R2 e w') (p:Nod) (R R2:List Nod) (nv lv kv xv uv tv:Value) (w:World) (hs:Sx E B ind m w nv R) (hN:NsK R) (u:p.k=K) (J:zP p) (v3:wN p<=2000000) (c:Nat) (hc:p.C=(c:Int)) (C5:0<c) (C7:c<=9223372036854775807) (hw:aN (aD aZ d mb) c (R,())=some (R2,()))
  (rt:RdC B w tv p.tail) (sl:Sl lv p.L.length) (sk:Sl kv p.key.length) (sx:Sl xv p.X.length) (su:Sl uv p.U.length) (st:Sl tv p.tail.length) :
  Calls prog 118 #[.pointer (some ⟨E,0,none⟩),.agg #[.int .i64 p.k,lv,.bool p.mem,kv,xv,uv,.int .i64 p.C,tv],.string (strOfNums [o]),.string (strOfNums [cl]),.int .i64 eg] w fun e w'=>pU E B ind m w (iZ ind p (itK (aF ind d) c R)) R2 e w':=by
 obtain ⟨la,lc,rfl,_⟩:=sl;obtain ⟨ka,kc,rfl,_⟩:=sk;obtain ⟨xa,xc,rfl,_⟩:=sx;obtain ⟨ua,uc,rfl,_⟩:=su;obtain ⟨ta,tc,rfl,_⟩:=st;obtain ⟨W,hW⟩:∃ W,W=w.alloc (Obj.cells #[.int .i64 p.k,.slice la p.L.length lc,.bool p.mem,.slice ka p.key.length kc,.slice xa p.X.length xc,.slice ua p.U.length uc,.int .i64 p.C,.slice ta p.tail.length tc] 49):=⟨_,rfl⟩;have gW:w.grownBy W none:=(by rw [hW];exact gWA);have sW:W.heap.size=w.heap.size+1:=(by rw [hW];simp);have HS:=aB (hs.K gW);have F6:=hs.lt;have HG:=aB gW;have m1:Hid (∀ U:World,_):=fun U=>cI [o] (by intro z hz;simp at hz;omega) (by simp) U;have u9:Hid (∀ U:World,_):=fun U=>cI [cl] (by intro z hz;simp at hz;omega) (by simp) U;have D3:wC p.tail<=2000000:=(by have:=v3;unfold wN at this;omega);have k0:=aB (qZ (.slice ta p.tail.length tc) p.tail m W ((rt.K gW).wide (by omega)) J.t.2 (by omega) HS.out.mx);have l2:Hid (∀ U:World,_):=fun U=>dX eg U;have s0:Hid (∀ U:World,_):=fun U=>dX 0 U;have u0:Hid (∀ U:World,_):=fun U=>dX 2 U;have q1:Hid (∀ U:World,_):=fun U=>cI [44] (by intro z hz;simp at hz;omega) (by simp) U;have i7:=aB IT;have l5:=aB (aIn ind d mb c R R2 hw (fun q hq h5=>((hN.nd q hq).2.2.2.2.2.2.2.2.2.1 h5).1));have u3:=aB hN;have E9:((c:Int)==0)=false:=(by rw [beq_eq_false_iff_ne];omega);have B0:=lD p.tail;have y0:=cU (cW p.tail);have m5:=aB (show iZ ind p (itK (aF ind d) c R)=cT [aG [o],fM ind (iU K (itK (aF ind d) c R) p.tail),aI eg,aG [cl]]++[⟨8,[],0⟩] by unfold iZ;rw [if_neg (by omega),u,n5,o6,i8]);have zc:W.cell? ⟨w.heap.size,6,none⟩=some (.int .i64 c):=(by rw [hW,<- hc];simp [go_sem]);have zt:W.cell? ⟨w.heap.size,7,none⟩=some (.slice ta p.tail.length tc):=(by rw [hW];simp [go_sem]);have D2:=hN.wt;rw [hc] at hW ⊢;have Z:=aB (show _/\_ from ⟨zc,zt⟩);have HW:=aB hW;rw [hW] at k0;clear gW hs rt J IT hw hN zc zt u hW
 go_enter func118,ntmps118
 go_wp2_with fail
 refine k0.out.mono ?_;rintro e O ⟨v2,rfl,o2,g2⟩;have hW:=HW.out;rw [<- hW] at o2 g2;clear hW;have n1:=aB o2;have u7:=aB (HS.out.K g2);have G2:=aB g2;obtain ⟨w1,t8,n8⟩:=o2.sl;generalize q9:(cW p.tail).length=TL at n8;subst n8;have y6:=g2.cell Z.out.1 (by simp);have s2:=g2.size;clear k0 o2 g2
 go_wp2_with fail
 refine (l2.out O).mono ?_;rintro e w3 ⟨f3,l1,rfl,h0,g3⟩;have J:=aGp g3 h0;have i0:=World.grownBy_alloc w3 (Obj.cells #[.func (.func f3) #[] l1] 92) none;have u8:=aB J;have G4:=aB (aA g3 i0);have u1:=aB (u7.out.K (aA g3 i0));have G1:=i0.cell (g3.cell y6 (by simp)) (by simp);clear h0 J g3 i0 y6;go_wp2
 go_loopw [12,48] (fun iv i U=>∃ (j:Nat) (N:Value),j<=c/\i=.int .i64 j/\PoL O.heap.size U iv (aI eg::itK (aF ind d) j R)/\Sx E B ind m U N (aT (aF ind d) j R)/\O.grownBy U (some E))
  (fun _ i _=>c - (intOf i).toNat)
 case atStart=>exact ⟨0,nv,Nat.zero_le _,rfl,u8.out,u1.out,fU G4.out⟩
 case round=>
  obtain ⟨j,N,hj,rfl,J,r2,gU⟩:=hrel;obtain ⟨E4,⟨P,hP⟩,d8,j7⟩:=l5.out j hj;have n2:=u3.out.sub hP;have D9:=cU (itK (aF ind d) j R);have sU:=gU.size;obtain ⟨ia,ic,t1⟩:=J.sl;generalize b1:(aI eg::itK (aF ind d) j R).length=LL at *;have A0:LL<=2000001:=(by rw [<- b1,List.length_cons];omega);have D:=aB J;have i1:=aB r2;have GU:=aB gU;subst t1;clear J r2 gU
  by_cases v6:j<c
  ·have m6:=j7 v6;have j4:=aB (show itK (aF ind d) (j+1) R=itK (aF ind d) j R++((if j=0 then [] else [aG [44],aI 2])++gO (aF ind d) (aT (aF ind d) j R)) from rfl)
   have y8:(gO (aF ind d) (aT (aF ind d) j R)).length<=2000000:=by
    have h1:=(l5.out (j+1) (by omega)).1;rw [j4.out,cP,cP] at h1;have h2:=cU (gO (aF ind d) (aT (aF ind d) j R));omega
   have q7:Hid (∀ (nv:Value) (U:World),Sx E B ind m U nv (aT (aF ind d) j R)->_):=fun nv U h=>i7.out (aT (aF ind d) j R) _ mb nv U h n2 m6;clear j7 d8 m6;generalize m9:aT (aF ind d) (j+1) R=RN at *;generalize E8:aT (aF ind d) j R=RJ at *;have o4:=aB m9;clear m9;generalize r0:gO (aF ind d) RJ=di at *;have B8:=aB r0;clear r0
   by_cases o0:j=0
   ·subst o0;have g0:=aB (q7.out N wr i1.out)
    go_wp2_with fail
    refine g0.out.mono ?_;rintro e w8 ⟨v8,b5,rfl,o8,h8,g8⟩;obtain ⟨F8,b3,f8⟩:=o8.pa;obtain ⟨a8,c8,c0⟩:=o8.sl;have d0:E<O.heap.size:=(by omega);have oI:=D.out.row g8 d0;have G0:=(GU.out).size;have s8:=g8.size;obtain ⟨v9,w9,i9,o9,g9⟩:=cJ O.heap.size w8 _ v8 _ _ F8 oI f8 (fun k u=>⟨by have:=(b3 k u).1;omega,(b3 k u).2,fun e=>by have h1:=(b3 k u).1;have h2:=(D.out.lt k e).2;omega⟩) (by omega) (by have h5:=b1;rw [h5];omega);obtain ⟨a9,c9,a5⟩:=o9.sl;have S:(aI eg::itK (aF ind d) 0 R++di).length=LL+di.length:=(by rw [List.length_append,b1]);rw [S] at a5;have b6:∀ x,(Value.slice ia LL ic).ownBlock=some x->O.heap.size<=x:=fun x e=>(D.out.lt x e).1;have j8:=aB (aY (aY GU.out g8 (fun x e=>by cases e;exact .inr rfl)) g9 (fun x e=>.inl (b6 x e)));have b0:Sx E B ind m w9 b5 RN:=pK h8 g9 (fun x e=>by have:=b6 x e;omega) (by omega) (by omega);have b8:Hid (Sx E B ind m w9 b5 (aT (aF ind d) (0+1) R)):=by unfold Hid;rw [o4.out];exact b0
    have b7:Hid (PoL O.heap.size w9 v9 (aI eg::itK (aF ind d) (0+1) R)):=by
     unfold Hid;rw [j4.out];simpa [itK] using o9
    generalize di.length=DL at *;subst c0 a5;clear o8 o9 h8 g8 g9 f8 oI b0 g0 b6;go_wp2
    go_roundw
    case rel=>exact ⟨0+1,b5,by omega,by go_num,b7.out,b8.out,j8.out⟩
    case measure=>simp [intOf];omega
   ·have E5:(0:Int)<j:=by omega
    go_wp2_with fail
    refine (q1.out wr).mono ?_;rintro e w5 ⟨f5,A,rfl,a4,g5⟩;have g1:=aB a4;have G5:=aB g5;clear a4 g5
    go_wp2_with fail
    refine (u0.out w5).mono ?_;rintro e w6 ⟨f6,y,rfl,Y,g6⟩;have k5:=g1.out.moreB (B:=wr.heap.size) (Nat.le_refl _) g6;have k6:=Y.moreB (B:=wr.heap.size) G5.out.size (World.grownBy.refl _ _);have H:=aA G5.out g6;have G:=aGb H.size k5 k6;have gA:=World.grownBy_alloc w6 (Obj.cells #[.func (.func f5) #[] A,.func (.func f6) #[] y] 92) none;have E3:=H.size;obtain ⟨v7,w7,y9,o7,g7⟩:=cJ O.heap.size _ _ _ _ _ _ ((D.out.K H).K gA) G (fun k u=>⟨by have:=u.1;omega,u.2,fun e=>by have h1:=u.1;have h2:=(D.out.lt k e).2;omega⟩) (by simp;omega) (by rw [b1];simp;omega);obtain ⟨a7,c7,n4⟩:=o7.sl;have l0:(aI eg::itK (aF ind d) j R++[aG [44],aI 2]).length=LL+2:=(by rw [List.length_append,b1];rfl);rw [l0] at n4;have f9:=aB o7;have b4:∀ x,(Value.slice ia LL ic).ownBlock=some x->O.heap.size<=x:=fun x e=>(D.out.lt x e).1;have d0:E<O.heap.size:=(by omega);have G7:=aB (aY (aY GU.out (aA H gA) (fun x e=>by cases e)) g7 (fun x e=>.inl (b4 x e)));have q6:Sx E B ind m w7 N RJ:=pK ((i1.out.K H).K gA) g7 (fun x e=>by have:=b4 x e;omega) (by omega) (by omega);have w4:=aB q6;have s7:=G7.out.size;subst n4;clear o7 g7 G gA H k5 k6 g1 Y g6 G5 q6 D b4;have g0:=aB (q7.out N w7 w4.out)
    go_wp2_with fail
    refine g0.out.mono ?_;rintro e w8 ⟨v8,b5,rfl,o8,h8,g8⟩;obtain ⟨F8,b3,f8⟩:=o8.pa;obtain ⟨a8,c8,c0⟩:=o8.sl;have d0:E<O.heap.size:=(by omega);have oI:=f9.out.row g8 d0;have D0:=(G7.out).size;have s8:=g8.size;obtain ⟨v9,w9,i9,o9,g9⟩:=cJ O.heap.size w8 _ v8 _ _ F8 oI f8 (fun k u=>⟨by have:=(b3 k u).1;omega,(b3 k u).2,fun e=>by have h1:=(b3 k u).1;have h2:=(f9.out.lt k e).2;omega⟩) (by omega) (by have h5:=l0;rw [h5];omega);obtain ⟨a9,c9,a5⟩:=o9.sl;have S:(aI eg::itK (aF ind d) j R++[aG [44],aI 2]++di).length=(LL+2)+di.length:=(by rw [List.length_append,l0]);rw [S] at a5;have b6:∀ x,(Value.slice a7 (LL+2) c7).ownBlock=some x->O.heap.size<=x:=fun x e=>(f9.out.lt x e).1;have j8:=aB (aY (aY G7.out g8 (fun x e=>by cases e;exact .inr rfl)) g9 (fun x e=>.inl (b6 x e)));have b0:Sx E B ind m w9 b5 RN:=pK h8 g9 (fun x e=>by have:=b6 x e;omega) (by omega) (by omega);have b8:Hid (Sx E B ind m w9 b5 (aT (aF ind d) (j+1) R)):=by unfold Hid;rw [o4.out];exact b0
    have b7:Hid (PoL O.heap.size w9 v9 (aI eg::itK (aF ind d) (j+1) R)):=by
     unfold Hid;rw [j4.out];simpa [o0] using o9
    generalize di.length=DL at *;subst c0 a5;clear o8 o9 h8 g8 g9 f8 oI b0 g0 b6;go_wp2
    go_roundw
    case rel=>exact ⟨j+1,b5,by omega,by go_num,b7.out,b8.out,j8.out⟩
    case measure=>simp [intOf];omega
  ·have v1:j=c:=(by omega);subst v1;have t0:=d8 rfl;rw [t0] at i1;clear j7 d8 l5 i7 n2;have v4:=aB D.out
   go_wp2_with fail
   refine (q1.out wr).mono ?_;rintro e w5 ⟨f5,A,rfl,a4,g5⟩;have g1:=aB a4;have G5:=aB g5;clear a4 g5
   go_wp2_with fail
   refine (s0.out w5).mono ?_;rintro e w6 ⟨f6,y,rfl,Y,g6⟩;have k5:=g1.out.moreB (B:=wr.heap.size) (Nat.le_refl _) g6;have k6:=Y.moreB (B:=wr.heap.size) G5.out.size (World.grownBy.refl _ _);have H:=aA G5.out g6;have G:=aGb H.size k5 k6;have gA:=World.grownBy_alloc w6 (Obj.cells #[.func (.func f5) #[] A,.func (.func f6) #[] y] 92) none;have d9:=aB (mC 9 0 _ _ _ _ G (fun k h=>h.2) (by simp));have G6:=aB (aA H gA);have s6:=G6.out.size;clear G gA H k5 k6 g1 Y g6 G5
   go_wp2_with fail
   refine d9.out.mono ?_;rintro e w7 ⟨f7,d5,rfl,c5,g7⟩;have s7:=g7.size;have k7:bT w7 (fun k=>wr.heap.size<=k/\k<w7.heap.size) f7 d5 aA3:=c5.at (fun k u=>u.elim (fun h=>⟨h.1,by have:=h.2;omega⟩) (fun h=>⟨by have:=h.1;omega,h.2⟩)) (fun _ _=>rfl);have c1:=aA G6.out g7;have G:=sK c1.size k7;have gA:=World.grownBy_alloc w7 (Obj.cells #[.func (.func f7) #[] d5] 92) none;have D5:=c1.size;obtain ⟨v8,w8,z1,o8,g8⟩:=cJ O.heap.size _ _ _ _ _ _ ((D.out.K c1).K gA) G (fun k u=>⟨by have:=u.1;omega,u.2,fun e=>by have h1:=u.1;have h2:=(D.out.lt k e).2;omega⟩) (by simp;omega) (by rw [b1];simp;omega);obtain ⟨a8,c8,c0⟩:=o8.sl;have l4:(aI eg::itK (aF ind d) j R++[aA3]).length=LL+1:=(by rw [List.length_append,b1];rfl);rw [l4] at c0;have d0:E<O.heap.size:=(by omega);have b4:∀ x,(Value.slice ia LL ic).ownBlock=some x->O.heap.size<=x:=fun x e=>(D.out.lt x e).1;have G8:=aY (aY GU.out (aA c1 gA) (fun x e=>by cases e)) g8 (fun x e=>.inl (b4 x e));have o1:Sx E B ind m w8 N R2:=pK ((i1.out.K c1).K gA) g8 (fun x e=>by have:=b4 x e;omega) (by omega) (by omega)
   -- the comments
   have oT:=n1.out.row G8 (by omega);obtain ⟨FT,d4,p8⟩:=n1.out.pa;have i4:PaR w8 FT (.slice w1 TL t8) (cW p.tail):=p8.at (fun _ h=>h) G8.size (fun k h=>G8.block k (d4 k h).2 (fun e=>by have h1:=(d4 k h).1;simp only [Option.some.injEq] at e;omega));have s8:=G8.size;obtain ⟨v9,w9,i9,o9,g9⟩:=cJ W.heap.size w8 v8 _ _ _ FT (o8.base s2) i4 (fun k u=>⟨(d4 k u).1,by have:=(d4 k u).2;omega,fun e=>by have h1:=(d4 k u).2;have h2:=(o8.lt k e).1;omega⟩) (by omega) (by rw [l4,q9];omega);obtain ⟨a9,c9,a5⟩:=o9.sl;have S:((aI eg::itK (aF ind d) j R++[aA3])++cW p.tail).length=LL+1+TL:=(by rw [List.length_append,l4,q9]);rw [S] at a5;have j6:∀ x,v8.ownBlock=some x->O.heap.size<=x:=fun x e=>(o8.lt x e).1;have G9:=aB (aY G8 g9 (fun x e=>.inl (j6 x e)));have b0:Sx E B ind m w9 N R2:=pK o1 g9 (fun x e=>by have:=j6 x e;omega) (by omega) (by omega);have b8:=aB b0;have i6:(aI eg::itK (aF ind d) j R++[aA3])++cW p.tail=iU K (itK (aF ind d) j R) p.tail:=(by simp [iU,i8]);rw [i6] at o9 S;have b7:=aB o9;have B7:=S;subst c0 a5;clear o8 o9 g8 g9 G gA c1 k7 c5 g7 G6 o1 b0 D b4 j6 oT i4 p8 G8 d9 v4 i6 S;obtain ⟨F9,m8,q3⟩:=b7.out.pa;have c6:=aB m8;have j0:=aB q3;clear m8 q3;have s9:=G9.out.size
   go_wp2_with fail
   refine (m1.out w9).mono ?_;rintro e p2 ⟨f2,d7,rfl,q5,g2⟩;have m2:=aB (aEA E N ind _ _ F9 p2 (b8.out.K g2).shp (j0.out.at (fun _ h=>h) g2.size (fun k h=>g2.block k (c6.out k h).2 (by simp))) (fun k h=>Nat.lt_of_lt_of_le (c6.out k h).2 g2.size) (by omega));have m7:=aB q5;have n9:=aB g2;clear q5 g2 m1
   go_wp2_with fail
   refine m2.out.mono ?_;rintro e p3 ⟨l3,M,rfl,h0,g3⟩;have r3:=aB h0;have G3:=aB g3;clear h0 g3 m2
   go_wp2_with fail
   refine (l2.out p3).mono ?_;rintro e p4 ⟨f4,d3,rfl,q0,g4⟩;have q4:=aB q0;have n0:=aB g4;clear q0 g4 l2
   go_wp2_with fail
   refine (u9.out p4).mono ?_;rintro e p5 ⟨f5,A,rfl,a4,g5⟩;have t2:=n9.out.size;have t3:=G3.out.size;have t4:=n0.out.size;have t5:=g5.size;have l6:=aA n0.out g5;have k9:=aA G3.out l6;have o3:=aA n9.out k9;have k2:=m7.out.moreB (B:=w.heap.size) (by omega) k9;have k3:bT p5 (fun k=>w.heap.size<=k/\k<p5.heap.size) l3 M (fM ind (iU K (itK (aF ind d) j R) p.tail)):=r3.out.at (fun k u=>u.elim (fun h=>⟨by have:=(c6.out k h).1;omega,by have:=(c6.out k h).2;omega⟩) (fun h=>⟨by have:=h.1;omega,by have:=h.2;omega⟩)) (fun k u=>l6.block k (u.elim (fun h=>by have:=(c6.out k h).2;omega) (fun h=>h.2)) (by simp));have k4:=q4.out.moreB (B:=w.heap.size) (by omega) g5;have k5:=a4.moreB (B:=w.heap.size) (by omega) (World.grownBy.refl _ _);have p1:=aEh (B:=w.heap.size) (by omega) k2 k3 k4 k5;have o5:=aB (rU _ _ _ _ p1 (fun k h=>h.2) (by simp));have gA:=World.grownBy_alloc p5 (Obj.cells #[.func (.func f2) #[] d7,.func (.func l3) #[] M,.func (.func f4) #[] d3,.func (.func f5) #[] A] 92) none;have GA:=aB (aA o3 gA);have m4:p5.heap.size+1=(p5.alloc (Obj.cells #[.func (.func f2) #[] d7,.func (.func l3) #[] M,.func (.func f4) #[] d3,.func (.func f5) #[] A] 92)).heap.size:=(by simp);have q8:=aB m4;clear k2 k3 k4 k5 p1 m7 r3 q4 a4 g5 l6 k9 o3 gA m4 j0 b7
   go_wp2_with fail
   refine o5.out.mono ?_;rintro e p6 ⟨f6,y,rfl,Y,g6⟩;have hA:=q8.out;have t6:=g6.size;have k6:bT p6 (fun k=>w.heap.size<=k/\k<p6.heap.size) f6 y (cT [aG [o],fM ind (iU K (itK (aF ind d) j R) p.tail),aI eg,aG [cl]]):=Y.at (fun k u=>u.elim (fun h=>⟨h.1,by have:=h.2;omega⟩) (fun h=>⟨by have:=h.1;omega,h.2⟩)) (fun _ _=>rfl);have G:=sK (B:=w.heap.size) (by omega) k6;have d9:=aB (mC 8 0 _ _ _ _ G (fun k h=>h.2) (by simp));have gB:=World.grownBy_alloc p6 (Obj.cells #[.func (.func f6) #[] y] 92) none;have GB:=aB (aA (aA GA.out g6) gB);have p9:p6.heap.size+1=(p6.alloc (Obj.cells #[.func (.func f6) #[] y] 92)).heap.size:=(by simp);have v0:=aB p9;clear k6 G Y g6 gB o5 p9 hA
   go_wp2_with fail
   refine d9.out.mono ?_;rintro e p7 ⟨s3,i2,rfl,c5,g7⟩;have f9:=aB c5;have G7:=aB g7;clear d9 c5 g7;go_wp2;go_ret;have t7:=G7.out.size;have E2:=v0.out;have A9:=q8.out;refine ⟨s3,i2,N,rfl,?_,(b8.out.K GB.out).K G7.out,?_⟩
   ·rw [m5.out];have i5:=f9.out;rw [show [cT [aG [o],fM ind (iU K (itK (aF ind d) j R) p.tail),aI eg,aG [cl]]].flatten++[(⟨8,[],0⟩:Pc)]=cT [aG [o],fM ind (iU K (itK (aF ind d) j R) p.tail),aI eg,aG [cl]]++[⟨8,[],0⟩] by simp] at i5;exact i5.at (fun k u=>u.elim (fun h=>⟨h.1,by have:=h.2;omega⟩) (fun h=>⟨by have:=h.1;omega,h.2⟩)) (fun _ _=>rfl)
   ·have h1:=aY (fU (r:=some E) (aA HG.out G2.out)) G9.out (fun x e=>by cases e;exact .inr rfl);exact aY h1 (aA GB.out G7.out) (fun x e=>by cases e)
theorem mW.val {y B:Nat} {ind m:Int} {W:World} {ps:List Pc} {j:Value} {R:List Nod} {e:Ending} {w':World} (h:mW W ps e w') (G:Sx y B ind m W j R):pU y B ind m W ps R e w':=by
 obtain ⟨f,u,E,D,A⟩:=h;exact ⟨f,u,j,E,D,G.K A,fU A⟩
theorem aJN (j:Nat) (p:Nod) (lv D y E tv:Value) (w:World) (B:Nat) (ind m:Int) (ps:List Pc) (J:List Nod)
  (sl:Sl lv p.L.length) (sk:Sl D p.key.length) (sx:Sl y p.X.length) (O:Sl E p.U.length) (st:Sl tv p.tail.length)
  (h:∀ W:World,w.grownBy W none->Calls prog 118 #[.pointer (some ⟨j,0,none⟩),.agg #[.int .i64 p.k,lv,.bool p.mem,D,y,E,.int .i64 p.C,tv],.string { data:=#[91] },.string { data:=#[93] },.int .i64 3] W fun e w'=>pU j B ind m W ps J e w') :
  Calls prog 84 #[.pointer (some ⟨j,0,none⟩),.agg #[.int .i64 p.k,lv,.bool p.mem,D,y,E,.int .i64 p.C,tv]] w fun e w'=>pU j B ind m w ps J e w':=by
 obtain ⟨la,lc,rfl,_⟩:=sl;obtain ⟨ka,kc,rfl,_⟩:=sk;obtain ⟨Y,xc,rfl,_⟩:=sx;obtain ⟨ua,uc,rfl,_⟩:=O;obtain ⟨ta,S,rfl,_⟩:=st;have H:=aB h;clear h
 go_enter func84,ntmps84
 go_wp2_with fail
 refine (H.out _ gWA).mono ?_;rintro e w1 ⟨f,u,A,rfl,M,N,G⟩;have H1:=aB M;have H2:=aB N;have Z:=aB (aY (fU (r:=some j) (World.grownBy_alloc w (Obj.cells #[.int .i64 p.k,.slice la p.L.length lc,.bool p.mem,.slice ka p.key.length kc,.slice Y p.X.length xc,.slice ua p.U.length uc,.int .i64 p.C,.slice ta p.tail.length S] 49) none)) G (fun x e=>by cases e;exact .inr rfl));clear H M N G;go_wp2;go_ret;exact ⟨f,u,A,rfl,H1.out.moreB (by simp) (World.grownBy.refl _ _),H2.out,Z.out⟩
theorem aIV (j:Nat) (p:Nod) (lv D y E tv:Value) (w:World) (B:Nat) (ind m:Int) (ps:List Pc) (J:List Nod)
  (sl:Sl lv p.L.length) (sk:Sl D p.key.length) (sx:Sl y p.X.length) (O:Sl E p.U.length) (st:Sl tv p.tail.length)
  (h:∀ W:World,w.grownBy W none->Calls prog 118 #[.pointer (some ⟨j,0,none⟩),.agg #[.int .i64 p.k,lv,.bool p.mem,D,y,E,.int .i64 p.C,tv],.string { data:=#[123] },.string { data:=#[125] },.int .i64 2] W fun e w'=>pU j B ind m W ps J e w') :
  Calls prog 85 #[.pointer (some ⟨j,0,none⟩),.agg #[.int .i64 p.k,lv,.bool p.mem,D,y,E,.int .i64 p.C,tv]] w fun e w'=>pU j B ind m w ps J e w':=by
 obtain ⟨la,lc,rfl,_⟩:=sl;obtain ⟨ka,kc,rfl,_⟩:=sk;obtain ⟨Y,xc,rfl,_⟩:=sx;obtain ⟨ua,uc,rfl,_⟩:=O;obtain ⟨ta,S,rfl,_⟩:=st;have H:=aB h;clear h
 go_enter func85,ntmps85
 go_wp2_with fail
 refine (H.out _ gWA).mono ?_;rintro e w1 ⟨f,u,A,rfl,M,N,G⟩;have H1:=aB M;have H2:=aB N;have Z:=aB (aY (fU (r:=some j) (World.grownBy_alloc w (Obj.cells #[.int .i64 p.k,.slice la p.L.length lc,.bool p.mem,.slice ka p.key.length kc,.slice Y p.X.length xc,.slice ua p.U.length uc,.int .i64 p.C,.slice ta p.tail.length S] 49) none)) G (fun x e=>by cases e;exact .inr rfl));clear H M N G;go_wp2;go_ret;exact ⟨f,u,A,rfl,H1.out.moreB (by simp) (World.grownBy.refl _ _),H2.out,Z.out⟩
theorem aEd (j B:Nat) (ind m:Int) (hB:B<=j) (Y:1<j):∀ (d:Nat) (R R2:List Nod) (m':Bool) (nv:Value) (w:World),Sx j B ind m w nv R->NsK R->aD aZ d m' (R,())=some (R2,())->
  Calls prog 86 #[.pointer (some ⟨j,0,none⟩)] w fun e w'=>aCT j B ind m w (gO (aF ind d) R) R2 e w'
 | 0,R,R2,m',nv,w,_,_,hw=>by simp [aD] at hw
 | d+1,[],R2,m',nv,w,_,_,hw=>by simp [aD] at hw
 | d+1,p::R,R2,m',nv,w,hs,hN,hw=>by
   have b7:=hN.nd p (by simp);have G:=hN.ok p (by simp);have J:wN p<=2000000:=(by have:=hN.wt;simp only [wNs] at this;omega);have c0:NsK R:=hN.sub (P:=[p]) rfl
   have hl:aN (aD aZ d (decide (p.k=6))) p.C.toNat (R,())=some (R2,()):=by
    by_cases hm:p.mem≠m'
    ·simp [aD,hm] at hw
    ·by_cases h0:5<=p.k/\d=0
     ·simp [aD,hm,h0,aZ] at hw
     ·simpa only [aD,if_neg hm,if_neg h0,aZ,Option.bind_some] using hw
   show Calls _ _ _ w fun e w'=>aCT j B ind m w (bI p.L++(nB p++[(aF ind (d+1) (p::R)).1])) R2 e w'
   have c9:=b7.1
   by_cases h5:p.k<5
   ·have S:=(b7.2.2.2.2.2.2.2.2.2.1 h5).1;rw [S] at hl;simp only [Int.toNat_zero,aN,Option.some.injEq,Prod.mk.injEq,and_true] at hl;subst hl;have b1:(aF ind (d+1) (p::R)).1=fF p:=(by simp only [aF,if_pos h5]);rw [b1];rcases (show p.k=0\/p.k=1\/p.k=2\/p.k=3\/p.k=4 by omega) with H | H | H | H | H
    ·have a6:fF p=aG aL0:=(by unfold fF;rw [if_neg (by omega),if_neg (by omega),if_pos H]);rw [a6];refine mT j B ind m hB Y p R R _ nv w hs G J 0 (by rw [H];rfl) (by omega) 115 #[] #[.pointer (some ⟨j+1,0,none⟩)] (fun args W=>by kernel_rfl) (fun W y h=>h.v0.1) (fun W y lv D A E tv M rl rk sk rx sx ru Z N=>?_);have e:(#[]:Array Value)++#[.agg #[.int .i64 p.k,lv,.bool p.mem,D,A,E,.int .i64 p.C,tv]]++#[.pointer (some ⟨j+1,0,none⟩)]=#[.agg #[.int .i64 p.k,lv,.bool p.mem,D,A,E,.int .i64 p.C,tv],.pointer (some ⟨j+1,0,none⟩)]:=(by simp);rw [e];exact (tP p lv D A E tv (j+1) aL0 (by intro z hz;simp at hz;omega) (by simp) W M.shp.v0.2 rl.sl sk sx Z N.sl).mono fun e w' h=>h.val M
    ·have a6:fF p=aG aL7:=(by unfold fF;rw [if_neg (by omega),if_neg (by omega),if_neg (by omega),if_pos H]);rw [a6];refine mT j B ind m hB Y p R R _ nv w hs G J 1 (by rw [H];rfl) (by omega) 115 #[] #[.pointer (some ⟨j+2,0,none⟩)] (fun args W=>by kernel_rfl) (fun W y h=>h.v1.1) (fun W y lv D A E tv M rl rk sk rx sx ru Z N=>?_);have e:(#[]:Array Value)++#[.agg #[.int .i64 p.k,lv,.bool p.mem,D,A,E,.int .i64 p.C,tv]]++#[.pointer (some ⟨j+2,0,none⟩)]=#[.agg #[.int .i64 p.k,lv,.bool p.mem,D,A,E,.int .i64 p.C,tv],.pointer (some ⟨j+2,0,none⟩)]:=(by simp);rw [e];exact (tP p lv D A E tv (j+2) aL7 (by intro z hz;simp at hz;omega) (by simp) W M.shp.v1.2 rl.sl sk sx Z N.sl).mono fun e w' h=>h.val M
    ·have a6:fF p=aG aMz:=(by unfold fF;rw [if_neg (by omega),if_neg (by omega),if_neg (by omega),if_neg (by omega)]);rw [a6];refine mT j B ind m hB Y p R R _ nv w hs G J 2 (by rw [H];rfl) (by omega) 115 #[] #[.pointer (some ⟨j+3,0,none⟩)] (fun args W=>by kernel_rfl) (fun W y h=>h.v2.1) (fun W y lv D A E tv M rl rk sk rx sx ru Z N=>?_);have e:(#[]:Array Value)++#[.agg #[.int .i64 p.k,lv,.bool p.mem,D,A,E,.int .i64 p.C,tv]]++#[.pointer (some ⟨j+3,0,none⟩)]=#[.agg #[.int .i64 p.k,lv,.bool p.mem,D,A,E,.int .i64 p.C,tv],.pointer (some ⟨j+3,0,none⟩)]:=(by simp);rw [e];exact (tP p lv D A E tv (j+3) aMz (by intro z hz;simp at hz;omega) (by simp) W M.shp.v2.2 rl.sl sk sx Z N.sl).mono fun e w' h=>h.val M
    ·have a6:fF p=aG p.X:=(by unfold fF;rw [if_pos H]);rw [a6];refine mT j B ind m hB Y p R R _ nv w hs G J 3 (by rw [H];rfl) (by omega) 82 #[] #[] (fun args W=>by kernel_rfl) (fun W y h=>h.v3) (fun W y lv D A E tv M rl rk sk rx sx ru Z N=>?_);have e:(#[]:Array Value)++#[.agg #[.int .i64 p.k,lv,.bool p.mem,D,A,E,.int .i64 p.C,tv]]++#[]=#[.agg #[.int .i64 p.k,lv,.bool p.mem,D,A,E,.int .i64 p.C,tv]]:=(by simp);rw [e];have c3:=M.lt;exact (aFr p lv D A E tv W (rx.wideC (by omega)) sx G.x.2 G.x.1 rl.sl sk Z N.sl).mono fun e w' h=>h.val M
    ·have a6:fF p=aG (quR p.U).1:=(by unfold fF;rw [if_neg (by omega),if_pos H]);rw [a6];refine mT j B ind m hB Y p R R _ nv w hs G J 4 (by rw [H];rfl) (by omega) 83 #[] #[] (fun args W=>by kernel_rfl) (fun W y h=>h.v4) (fun W y lv D A E tv M rl rk sk rx sx ru Z N=>?_);have e:(#[]:Array Value)++#[.agg #[.int .i64 p.k,lv,.bool p.mem,D,A,E,.int .i64 p.C,tv]]++#[]=#[.agg #[.int .i64 p.k,lv,.bool p.mem,D,A,E,.int .i64 p.C,tv]]:=(by simp);rw [e];have c3:=M.lt;exact (aE2 p lv D A E tv W M.tab (ru.wideC (by omega)) Z G.u rl.sl sk sx N.sl).mono fun e w' h=>h.val M
   ·have b1:(aF ind (d+1) (p::R)).1=iZ ind p (itK (aF ind d) p.C.toNat R):=(by simp only [aF,if_neg h5]);rw [b1];have c8:=b7.2.2.2.2.2.2.2.2.2.2;have c7:=hN.cn p (by simp);have IT:∀ (R R2:List Nod) (m':Bool) (nv:Value) (w:World),Sx j B ind m w nv R->NsK R->aD aZ d m' (R,())=some (R2,())->_:=fun R R2 m' nv w a b c=>aEd j B ind m hB Y d R R2 m' nv w a b c;rcases (show p.k=5\/p.k=6 by omega) with H | H
    ·refine mT j B ind m hB Y p R R2 _ nv w hs G J 5 (by rw [H];rfl) (by omega) 84 #[.pointer (some ⟨j,0,none⟩)] #[] (fun args W=>by kernel_rfl) (fun W y h=>h.v5) (fun W y lv D A E tv M rl rk sk rx sx ru Z N=>?_);have e:(#[.pointer (some ⟨j,0,none⟩)]:Array Value)++#[.agg #[.int .i64 p.k,lv,.bool p.mem,D,A,E,.int .i64 p.C,tv]]++#[]=#[.pointer (some ⟨j,0,none⟩),.agg #[.int .i64 p.k,lv,.bool p.mem,D,A,E,.int .i64 p.C,tv]]:=(by simp);rw [e];refine aJN j p lv D A E tv W B ind m _ R2 rl.sl sk sx Z N.sl (fun W' O=>?_);rw [H] at hl
     by_cases S:p.C=0
     ·rw [S] at hl;simp only [Int.toNat_zero,aN,Option.some.injEq,Prod.mk.injEq,and_true] at hl;subst hl;unfold iZ;rw [if_pos S]
      by_cases ht:p.tail=[]
      ·rw [if_pos ht,show iT p.k=91 by rw [H];rfl,show iY p.k=93 by rw [H];rfl];exact aB0 91 93 3 (by omega) (by omega) j B ind m p R y lv D A E tv W' (M.K O) S ht rl.sl sk sx Z N.sl
      ·rw [if_neg ht];have hr:=aBI 91 93 3 (by omega) (by omega) j B ind m hB p R y lv D A E tv W' (M.K O) G J S ht (N.K O) rl.sl sk sx Z N.sl;rw [show iT p.k=91 by rw [H];rfl,show iY p.k=93 by rw [H];rfl];exact hr
     ·exact aAO 91 93 3 (by omega) (by omega) 5 false rfl rfl rfl j B ind m hB Y d IT p R R2 y lv D A E tv W' (M.K O) c0 H G J p.C.toNat (by omega) (by omega) (by omega) (by simpa using hl) (N.K O) rl.sl sk sx Z N.sl
    ·refine mT j B ind m hB Y p R R2 _ nv w hs G J 6 (by rw [H];rfl) (by omega) 85 #[.pointer (some ⟨j,0,none⟩)] #[] (fun args W=>by kernel_rfl) (fun W y h=>h.v6) (fun W y lv D A E tv M rl rk sk rx sx ru Z N=>?_);have e:(#[.pointer (some ⟨j,0,none⟩)]:Array Value)++#[.agg #[.int .i64 p.k,lv,.bool p.mem,D,A,E,.int .i64 p.C,tv]]++#[]=#[.pointer (some ⟨j,0,none⟩),.agg #[.int .i64 p.k,lv,.bool p.mem,D,A,E,.int .i64 p.C,tv]]:=(by simp);rw [e];refine aIV j p lv D A E tv W B ind m _ R2 rl.sl sk sx Z N.sl (fun W' O=>?_);rw [H] at hl
     by_cases S:p.C=0
     ·rw [S] at hl;simp only [Int.toNat_zero,aN,Option.some.injEq,Prod.mk.injEq,and_true] at hl;subst hl;unfold iZ;rw [if_pos S]
      by_cases ht:p.tail=[]
      ·rw [if_pos ht,show iT p.k=123 by rw [H];rfl,show iY p.k=125 by rw [H];rfl];exact aB0 123 125 2 (by omega) (by omega) j B ind m p R y lv D A E tv W' (M.K O) S ht rl.sl sk sx Z N.sl
      ·rw [if_neg ht];have hr:=aBI 123 125 2 (by omega) (by omega) j B ind m hB p R y lv D A E tv W' (M.K O) G J S ht (N.K O) rl.sl sk sx Z N.sl;rw [show iT p.k=123 by rw [H];rfl,show iY p.k=125 by rw [H];rfl];exact hr
     ·exact aAO 123 125 2 (by omega) (by omega) 6 true rfl rfl rfl j B ind m hB Y d IT p R R2 y lv D A E tv W' (M.K O) c0 H G J p.C.toNat (by omega) (by omega) (by omega) (by simpa using hl) (N.K O) rl.sl sk sx Z N.sl
theorem aHx (ps qs:List Pc):iM (ps,true) qs=(ps,true):=by
 induction qs with
 | nil=>rfl
 | cons q qs ih=>show iM (oB (ps,true) q) qs=_;rw [show oB (ps,true) q=(ps,true) by simp [oB]];exact ih
theorem aIG (a b:List Pc):cR (a++b)=cR a+cR b:=by
 induction a with
 | nil=>simp [cR]
 | cons p a ih=>simp only [List.cons_append,cR,ih];omega
theorem aHr (qs:List Pc):∀ (ps:List Pc),ps.length<=40000->cR ps<=100000->(iM (ps,false) qs).2=dY (ps++qs)/\(dY (ps++qs)=false->(iM (ps,false) qs).1=ps++qs):=by
 induction qs with
 | nil=>
   intro ps y A;have j:dY (ps++[])=false:=(by simp [dY];omega);rw [j];exact ⟨rfl,fun _=>by simp [iM]⟩
 | cons q qs ih=>
   intro ps y A;have D:=fO qs
   show (iM (oB (ps,false) q) qs).2=_/\_
   by_cases h:ps.length=40000\/100000 - cR ps<(q.t.length:Int)
   ·have e:oB (ps,false) q=(ps,true):=by unfold oB;rw [if_pos (.inr h)]
    have j:dY (ps++q::qs)=true:=by
     have u:cR (ps++q::qs)=cR ps+(q.t.length+cR qs):=(by rw [aIG];rfl);unfold dY;rw [u,Bool.or_eq_true];rcases h with h | h
     ·left;simp;omega
     ·right;rw [decide_eq_true_eq];omega
    rw [e,aHx,j];exact ⟨rfl,fun h=>by cases h⟩
   ·have e:oB (ps,false) q=(ps++[q],false):=(by unfold oB;rw [if_neg (by simp;omega)]);rw [e];have:=ih (ps++[q]) (by simp;omega) (by rw [sF];omega);simpa [iM,e] using this
theorem aHS (ps:List Pc):(iM ([],false) ps).2=dY ps/\(dY ps=false->(iM ([],false) ps).1=ps):=by
 have:=aHr ps [] (by simp) (by simp [cR]);simpa using this
theorem aHo (G B:Nat) (ind m:Int) (hB:B<=G) (b2:1<G) (R:List Nod) (tail:List Cm) (nv tv:Value) (w:World) (hs:Sx G B ind m w nv R) (hN:NsK R) (hw:aD aZ 201 false (R,())=some ([],())) (rt:RdC B w tv tail) (c8:aAR tail) (j0:wC tail<=2000000) :
  Calls prog 50 #[.pointer (some ⟨G,0,none⟩),tv] w fun e w'=>∃ f D,e=.returned (.func (.func f) #[] D)/\bT w' (fun k=>w.heap.size<=k/\k<w'.heap.size) f D (cT (gO (aF ind 201) R++[aI 4]++bI tail))/\w.grownBy w' (some G):=by
 have HI:=aB (aEd G B ind m hB b2 201 R [] false nv w hs hN hw);have j9:=hs.lt;have HL:Hid (∀ U:World,_):=fun U=>dX 4 U
 have i8:(gO (aF ind 201) R).length<=2000020:=by
  rcases R with _ | ⟨n,R⟩
  ·simp [aD] at hw
  ·obtain ⟨n',P,hP,hm⟩:=sS ind 201 false (n::R) [] hw (fun p hp h5=>((hN.nd p hp).2.2.2.2.2.2.2.2.2.1 h5).1);have hn:n=n':=(by simp at hP;exact hP.1);subst hn;have Z:=aCg (V:=aF ind 201) n R (wN n+wNs P) (by omega);have h2:=cU (gO (aF ind 201) (n::R));have h3:=hN.wt;have h4:wNs (n::R)=wN n+wNs P:=(by rw [hP];simp [wNs]);omega
 have i0:=gY tail;have f7:=cU (bI tail);obtain ⟨ta,tc,c6,_,_⟩:=rt.sl;have d8:=aB rt;have HM:=aB hs.mx;subst c6;clear hs hN hw rt
 go_enter func50,ntmps50
 go_wp2_with fail
 refine HI.out.mono ?_;rintro e w1 ⟨v1,d6,rfl,o1,Z,g1⟩;obtain ⟨pa,pc,c7⟩:=o1.sl;generalize O:(gO (aF ind 201) R).length=L1 at *;have y:=aB o1;have G1:=aB g1;have b6:=aB Z;subst c7;clear o1 Z g1 HI
 go_wp2_with fail
 refine (HL.out w1).mono ?_;rintro e w2 ⟨f2,E,rfl,b5,N⟩;have S:=sK N.size b5;have gA:=World.grownBy_alloc w2 (Obj.cells #[.func (.func f2) #[] E] 92) none;have s1:=G1.out.size;have s2:=N.size;obtain ⟨v3,w3,f5,o3,g3⟩:=cJ w.heap.size _ _ _ _ _ _ ((y.out.K N).K gA) S (fun k j=>⟨by have:=j.1;omega,j.2,fun e=>by have Z:=j.1;have h2:=(y.out.lt k e).2;omega⟩) (by simp;omega) (by rw [O];simp;omega);obtain ⟨a3,c3,b0⟩:=o3.sl;have H:(gO (aF ind 201) R++[aI 4]).length=L1+1:=(by rw [List.length_append,O];rfl);rw [H] at b0;have M:∀ x,(Value.slice pa L1 pc).ownBlock=some x->w.heap.size<=x:=fun x e=>(y.out.lt x e).1;have G3:=aB (aY (aY (aY G1.out N (fun x e=>by cases e)) gA (fun x e=>by cases e)) g3 (fun x e=>.inl (M x e)));have b1:Sx G B ind m w3 d6 []:=pK ((b6.out.K N).K gA) g3 (fun x e=>by have:=M x e;omega) hB b2;have s3:=G3.out.size;have X:=aB (mR (.slice ta tail.length tc) tail m w3 ((d8.out.beside G3.out (fun k e=>by cases e;exact hB)).wide (by omega)) c8 (by omega) b1.mx);have A:=aB o3;subst b0;clear o3 g3 S gA b5 N b1 M y b6 HL
 go_wp2_with fail
 refine X.out.mono ?_;rintro e w4 ⟨v4,rfl,o4,g4⟩;obtain ⟨F4,u,b3⟩:=o4.pa;obtain ⟨a4,c4,a8⟩:=o4.sl;have s4:=g4.size;obtain ⟨v5,w5,g0,o5,g5⟩:=cJ w.heap.size w4 _ v4 _ _ F4 (A.out.K g4) b3 (fun k j=>⟨by have:=(u k j).1;omega,(u k j).2,fun e=>by have Z:=(u k j).1;have h2:=(A.out.lt k e).2;omega⟩) (by omega) (by rw [H];omega);obtain ⟨a5,c5,b7⟩:=o5.sl;have a7:∀ x,(Value.slice a3 (L1+1) c3).ownBlock=some x->w.heap.size<=x:=fun x e=>(A.out.lt x e).1;have G5:=aB (aY (aY G3.out g4 (fun x e=>by cases e)) g5 (fun x e=>.inl (a7 x e)));obtain ⟨F5,J,a6⟩:=o5.pa;have a9:=aB (rU v5 _ F5 w5 a6 (fun k h=>(J k h).2) (by rw [List.length_append,H];omega));have b4:=aB J;generalize (gO (aF ind 201) R++[aI 4]++bI tail).length=L5 at b7;generalize (bI tail).length=L4 at a8;subst a8 b7;clear o4 o5 g4 g5 b3 u a6 J a7 A X
 go_wp2_with fail
 refine a9.out.mono ?_;rintro e w6 ⟨f6,L,rfl,Y,g6⟩;have d9:=aB Y;have G6:=aB (aY G5.out g6 (fun x e=>by cases e));have s6:=g6.size;have s5:=G5.out.size;clear a9 Y g6;go_wp2;go_ret;exact ⟨f6,L,rfl,d9.out.at (fun k j=>j.elim (fun h=>⟨(b4.out k h).1,by have:=(b4.out k h).2;omega⟩) (fun h=>⟨by have:=h.1;omega,h.2⟩)) (fun _ _=>rfl),G6.out⟩
end Go.Proofs.YtgifkcpdihphlaaGreatDoor
