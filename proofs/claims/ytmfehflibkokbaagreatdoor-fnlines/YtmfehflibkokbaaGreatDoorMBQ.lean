import Derived.Test.YtmfehflibkokbaaGreatDoorMBP
set_option maxHeartbeats 16000000
set_option maxRecDepth 100000
namespace Go.Proofs.YtmfehflibkokbaaGreatDoor
open Go.Proofs.Tryz
open Go.RowKit
attribute [-go_sem] Builtin.append_
theorem aBH (o h eg:Int) (b9:0<=o/\o<=255) (S:0<=h/\h<=255) (E B:Nat) (ind m:Int) (p:Nod) (R:List Nod) (nv lv Y xv M tv:Value) (w:World) (Z:Sx E B ind m w nv R) (hc:p.C=0) (ht:p.tail=[])
  (sl:Sl lv p.L.length) (sk:Sl Y p.key.length) (sx:Sl xv p.X.length) (su:Sl M p.U.length) (st:Sl tv p.tail.length) :
  Calls prog 95 #[.pointer (some ⟨E,0,none⟩),.agg #[.int .i64 p.k,lv,.bool p.mem,Y,xv,M,.int .i64 p.C,tv],.string (strOfNums [o]),.string (strOfNums [h]),.int .i64 eg] w fun e w'=>pA E B ind m w (aG [o,h]) R e w':=by
 obtain ⟨la,lc,rfl,_⟩:=sl;obtain ⟨ka,kc,rfl,_⟩:=sk;obtain ⟨xa,xc,rfl,_⟩:=sx;obtain ⟨ua,uc,rfl,_⟩:=su;obtain ⟨ta,tc,rfl,_⟩:=st;obtain ⟨W,A⟩:∃ W,W=w.alloc (Obj.cells #[.int .i64 p.k,.slice la p.L.length lc,.bool p.mem,.slice ka p.key.length kc,.slice xa p.X.length xc,.slice ua p.U.length uc,.int .i64 p.C,.slice ta p.tail.length tc] 35):=⟨_,rfl⟩;have J:w.grownBy W none:=(by rw [A];exact gWA);have HS:=aB (Z.K J);have O:=aB J;have HT:=aB (cG [o,h] (by intro z hz;simp at hz;omega) (by simp) W);have N:¬ 9223372036854775807<(strOfNums [o]).size+(strOfNums [h]).size:=(by rw [strOfNums_size,strOfNums_size];simp);have D:p.tail.length=0:=(by rw [ht];rfl);rw [D] at A ⊢;have a7:strOfNums [o]++strOfNums [h]=strOfNums [o,h]:=tT [o] [h];rw [hc] at A ⊢;subst A;clear J Z
 go_enter func95,ntmps95
 go_wp2_with fail
 refine HT.out.mono ?_;rintro e w1 ⟨f,y,rfl,hp,g⟩;have HP:=aB hp;have G:=aB g;clear HT hp g;go_wp2;go_ret;exact ⟨f,y,nv,rfl,HP.out.moreB O.out.size (World.grownBy.refl _ _),HS.out.K G.out,fL (aA O.out G.out)⟩
theorem aBq (o cl eg:Int) (l2:0<=o/\o<=255) (h4:0<=cl/\cl<=255) (bs B:Nat) (ind m:Int) (hB:B<=bs) (p:Nod) (R:List Nod) (nv lv kv xv uv tv:Value) (w:World) (hs:Sx bs B ind m w nv R) (c2:xJ p) (d6:wN p<=2000000) (hc:p.C=0) (ht:p.tail≠[])
  (rt:RdC B w tv p.tail) (sl:Sl lv p.L.length) (sk:Sl kv p.key.length) (sx:Sl xv p.X.length) (su:Sl uv p.U.length) (st:Sl tv p.tail.length) :
  Calls prog 95 #[.pointer (some ⟨bs,0,none⟩),.agg #[.int .i64 p.k,lv,.bool p.mem,kv,xv,uv,.int .i64 p.C,tv],.string (strOfNums [o]),.string (strOfNums [cl]),.int .i64 eg] w fun e w'=>pA bs B ind m w (cV [aG [o],iQ ind (cU p.tail),aH 4,aG [cl]]) R e w':=by
 obtain ⟨la,lc,rfl,_⟩:=sl;obtain ⟨ka,kc,rfl,_⟩:=sk;obtain ⟨xa,xc,rfl,_⟩:=sx;obtain ⟨ua,uc,rfl,_⟩:=su;obtain ⟨ta,tc,rfl,_⟩:=st;obtain ⟨W,J⟩:∃ W,W=w.alloc (Obj.cells #[.int .i64 p.k,.slice la p.L.length lc,.bool p.mem,.slice ka p.key.length kc,.slice xa p.X.length xc,.slice ua p.U.length uc,.int .i64 p.C,.slice ta p.tail.length tc] 35):=⟨_,rfl⟩;have gW:w.grownBy W none:=(by rw [J];exact gWA);have sW:W.heap.size=w.heap.size+1:=(by rw [J];simp);have HS:=aB (hs.K gW);have l3:=hs.lt;have HG:=aB gW;have b8:Hid (∀ U:World,_):=fun U=>cG [o] (by intro z hz;simp at hz;omega) (by simp) U;have d3:Hid (∀ U:World,_):=fun U=>cG [cl] (by intro z hz;simp at hz;omega) (by simp) U;have k7:wC p.tail<=2000000:=(by have:=d6;unfold wN at this;omega);have S:=aB (qJ (.slice ta p.tail.length tc) p.tail m W ((rt.K gW).wide (by omega)) c2.t.2 (by omega) HS.out.mx);have a7:Hid (∀ U:World,_):=fun U=>dW 4 U;have l0:((p.tail.length:Int)==0)=false:=(by rw [beq_eq_false_iff_ne];have:=List.length_pos_iff.2 ht;omega);have j4:=kS p.tail;have g7:=cN (cU p.tail);rw [hc] at J ⊢;have zc:W.cell? ⟨w.heap.size,6,none⟩=some (.int .i64 0):=(by rw [J];simp [go_sem]);have Z:=aB zc;have HW:=aB J;rw [J] at S;clear gW hs rt c2 zc J
 go_enter func95,ntmps95
 go_wp2_with fail
 refine S.out.mono ?_;rintro e w1 ⟨v1,rfl,o1,g1⟩;have J:=HW.out;rw [<- J] at o1 g1;clear J;have y6:=g1.cell Z.out (by simp);obtain ⟨F1,b6,b0⟩:=o1.pa;obtain ⟨a1,c1,b3⟩:=o1.sl;have d4:=aB b0;have D:=aB b6;have G1:=aB g1;have b2:=aB (HS.out.K g1);generalize j1:(cU p.tail).length=L1 at b3;subst b3;clear S o1 b0 g1 b6
 go_wp2_with fail
 refine (b8.out w1).mono ?_;rintro e w2 ⟨f2,A,rfl,c6,O⟩;have c7:=aB (aDp bs nv ind _ _ F1 w2 (b2.out.K O).shp (d4.out.at (fun _ h=>h) O.size (fun k h=>O.block k (D.out k h).2 (by simp))) (fun k h=>Nat.lt_of_lt_of_le (D.out k h).2 O.size) (by omega));have b9:=aB c6;have G2:=aB O;have d7:=aB (b2.out.K O);clear c6 O b8
 go_wp2_with fail
 refine c7.out.mono ?_;rintro e w3 ⟨f3,y,rfl,b1,g3⟩;have c3:=aB b1;have G3:=aB g3;clear b1 g3 c7
 go_wp2_with fail
 refine (a7.out w3).mono ?_;rintro e w4 ⟨f4,G,rfl,c8,g4⟩;have a9:=aB c8;have G4:=aB g4;clear c8 g4 a7
 go_wp2_with fail
 refine (d3.out w4).mono ?_;rintro e w5 ⟨f5,E,rfl,c5,g5⟩;have s1:=G1.out.size;have s2:=G2.out.size;have s3:=G3.out.size;have s4:=G4.out.size;have s5:=g5.size;have M:=aA G4.out g5;have Y:=aA G3.out M;have k2:=b9.out.moreB (B:=w.heap.size) (by omega) Y;have k3:bP w5 (fun k=>w.heap.size<=k/\k<w5.heap.size) f3 y (iQ ind (cU p.tail)):=c3.out.at (fun k hk=>hk.elim (fun h=>⟨by have:=(D.out k h).1;omega,by have:=(D.out k h).2;omega⟩) (fun h=>⟨by have:=h.1;omega,by have:=h.2;omega⟩)) (fun k hk=>M.block k (hk.elim (fun h=>by have:=(D.out k h).2;omega) (fun h=>h.2)) (by simp));have k4:=a9.out.moreB (B:=w.heap.size) (by omega) g5;have k5:=c5.moreB (B:=w.heap.size) (by omega) (World.grownBy.refl _ _);have b7:=aD4 (B:=w.heap.size) (by omega) k2 k3 k4 k5;have b4:=aB (rN _ _ _ _ b7 (fun k h=>h.2) (by simp));have gA:=World.grownBy_alloc w5 (Obj.cells #[.func (.func f2) #[] A,.func (.func f3) #[] y,.func (.func f4) #[] G,.func (.func f5) #[] E] 56) none;have GA:=aB (aA Y gA);have a4:w5.heap.size<=(w5.alloc (Obj.cells #[.func (.func f2) #[] A,.func (.func f3) #[] y,.func (.func f4) #[] G,.func (.func f5) #[] E] 56)).heap.size:=gA.size;have f8:=aB a4;clear k2 k3 k4 k5 b7 b9 c3 a9 c5 g5 M Y gA a4
 go_wp2_with fail
 refine b4.out.mono ?_;rintro e w6 ⟨f6,N,rfl,c0,g6⟩;have d2:=aB c0;have G6:=aB g6;clear c0 g6 b4;go_wp2;go_ret;have s6:=G6.out.size;have hA:=f8.out;refine ⟨f6,N,nv,rfl,d2.out.at (fun k hk=>hk.elim (fun h=>⟨h.1,by have:=h.2;omega⟩) (fun h=>⟨by have:=h.1;omega,h.2⟩)) (fun _ _=>rfl),(d7.out.K GA.out).K G6.out,fL (aA (aA (aA (aA HG.out G1.out) G2.out) GA.out) G6.out)⟩
theorem zY (o cl eg:Int) (E0:0<=o/\o<=255) (y4:0<=cl/\cl<=255) (K:Int) (mb:Bool) (q7:jY K=o) (n4:kW K=cl) (i9:oD K=eg) (G B:Nat) (ind m:Int) (hB:B<=G) (B9:1<G) (d:Nat) (IT:∀ (R R2:List Nod) (m':Bool) (nv:Value) (w:World),Sx G B ind m w nv R->NsK R->aE bC d m' (R,())=some (R2,())->Calls prog 55 #[.pointer (some ⟨G,0,none⟩)] w fun e w'=>aCf G B ind m w (iN (aJ ind d) R) R2 e w') (p:Nod) (R R2:List Nod) (nv lv kv xv uv tv:Value) (w:World) (hs:Sx G B ind m w nv R) (hN:NsK R) (y:p.k=K) (S:xJ p) (u8:wN p<=2000000) (c:Nat) (hc:p.C=(c:Int)) (B1:0<c) (C3:c<=9223372036854775807) (hw:aO (aE bC d mb) c (R,())=some (R2,()))
  (rt:RdC B w tv p.tail) (sl:Sl lv p.L.length) (sk:Sl kv p.key.length) (sx:Sl xv p.X.length) (su:Sl uv p.U.length) (st:Sl tv p.tail.length) :
  Calls prog 95 #[.pointer (some ⟨G,0,none⟩),.agg #[.int .i64 p.k,lv,.bool p.mem,kv,xv,uv,.int .i64 p.C,tv],.string (strOfNums [o]),.string (strOfNums [cl]),.int .i64 eg] w fun e w'=>pA G B ind m w (kB ind p (itK (aJ ind d) c R)) R2 e w':=by
 obtain ⟨la,lc,rfl,_⟩:=sl;obtain ⟨ka,kc,rfl,_⟩:=sk;obtain ⟨xa,xc,rfl,_⟩:=sx;obtain ⟨ua,uc,rfl,_⟩:=su;obtain ⟨ta,tc,rfl,_⟩:=st;obtain ⟨W,hW⟩:∃ W,W=w.alloc (Obj.cells #[.int .i64 p.k,.slice la p.L.length lc,.bool p.mem,.slice ka p.key.length kc,.slice xa p.X.length xc,.slice ua p.U.length uc,.int .i64 p.C,.slice ta p.tail.length tc] 35):=⟨_,rfl⟩;have gW:w.grownBy W none:=(by rw [hW];exact gWA);have sW:W.heap.size=w.heap.size+1:=(by rw [hW];simp);have HS:=aB (hs.K gW);have E3:=hs.lt;have HG:=aB gW;have p0:Hid (∀ U:World,_):=fun U=>cG [o] (by intro z hz;simp at hz;omega) (by simp) U;have t1:Hid (∀ U:World,_):=fun U=>cG [cl] (by intro z hz;simp at hz;omega) (by simp) U;have C9:wC p.tail<=2000000:=(by have:=u8;unfold wN at this;omega);have l1:=aB (qJ (.slice ta p.tail.length tc) p.tail m W ((rt.K gW).wide (by omega)) S.t.2 (by omega) HS.out.mx);have l5:Hid (∀ U:World,_):=fun U=>dW eg U;have w1:Hid (∀ U:World,_):=fun U=>dW 0 U;have v0:Hid (∀ U:World,_):=fun U=>dW 2 U;have n9:Hid (∀ U:World,_):=fun U=>cG [44] (by intro z hz;simp at hz;omega) (by simp) U;have j2:=aB IT;have l6:=aB (aHk ind d mb c R R2 hw (fun q hq h5=>((hN.nd q hq).2.2.2.2.2.2.2.2.2.1 h5).1));have u4:=aB hN;have F6:((c:Int)==0)=false:=(by rw [beq_eq_false_iff_ne];omega);have B6:=kS p.tail;have x5:=cN (cU p.tail);have o5:=aB (show kB ind p (itK (aJ ind d) c R)=cV [aG [o],iQ ind (kC K (itK (aJ ind d) c R) p.tail),aH eg,aG [cl]]++[⟨8,[],0⟩] by unfold kB;rw [if_neg (by omega),y,q7,n4,i9]);have zc:W.cell? ⟨w.heap.size,6,none⟩=some (.int .i64 c):=(by rw [hW,<- hc];simp [go_sem]);have zt:W.cell? ⟨w.heap.size,7,none⟩=some (.slice ta p.tail.length tc):=(by rw [hW];simp [go_sem]);have D4:=hN.wt;rw [hc] at hW ⊢;have Z:=aB (show _/\_ from ⟨zc,zt⟩);have HW:=aB hW;rw [hW] at l1;clear gW hs rt S IT hw hN zc zt y hW
 go_enter func95,ntmps95
 go_wp2_with fail
 refine l1.out.mono ?_;rintro e Y ⟨v2,rfl,o2,g2⟩;have hW:=HW.out;rw [<- hW] at o2 g2;clear hW;have r0:=aB o2;have u9:=aB (HS.out.K g2);have G2:=aB g2;obtain ⟨u1,x2,n3⟩:=o2.sl;generalize o1:(cU p.tail).length=TL at n3;subst n3;have y6:=g2.cell Z.out.1 (by simp);have s2:=g2.size;clear l1 o2 g2
 go_wp2_with fail
 refine (l5.out Y).mono ?_;rintro e w3 ⟨f3,l2,rfl,d4,g3⟩;have S:=aFP g3 d4;have i4:=World.grownBy_alloc w3 (Obj.cells #[.func (.func f3) #[] l2] 56) none;have s1:=aB S;have G4:=aB (aA g3 i4);have x1:=aB (u9.out.K (aA g3 i4));have E9:=i4.cell (g3.cell y6 (by simp)) (by simp);clear d4 S g3 i4 y6;go_wp2
 go_loopw [12,48] (fun iv i U=>∃ (j:Nat) (O:Value),j<=c/\i=.int .i64 j/\PoL Y.heap.size U iv (aH eg::itK (aJ ind d) j R)/\Sx G B ind m U O (bF (aJ ind d) j R)/\Y.grownBy U (some G))
  (fun _ i _=>c - (intOf i).toNat)
 case atStart=>exact ⟨0,nv,Nat.zero_le _,rfl,s1.out,x1.out,fL G4.out⟩
 case round=>
  obtain ⟨j,O,hj,rfl,S,n1,gU⟩:=hrel;obtain ⟨D6,⟨P,hP⟩,d8,k8⟩:=l6.out j hj;have q9:=u4.out.sub hP;have C2:=cN (itK (aJ ind d) j R);have sU:=gU.size;obtain ⟨ia,ic,t9⟩:=S.sl;generalize b3:(aH eg::itK (aJ ind d) j R).length=LL at *;have A6:LL<=2000001:=(by rw [<- b3,List.length_cons];omega);have E:=aB S;have i2:=aB n1;have GU:=aB gU;subst t9;clear S n1 gU
  by_cases t0:j<c
  ·have o4:=k8 t0;have j7:=aB (show itK (aJ ind d) (j+1) R=itK (aJ ind d) j R++((if j=0 then [] else [aG [44],aH 2])++iN (aJ ind d) (bF (aJ ind d) j R)) from rfl)
   have A8:(iN (aJ ind d) (bF (aJ ind d) j R)).length<=2000000:=by
    have h1:=(l6.out (j+1) (by omega)).1;rw [j7.out,eO,eO] at h1;have h2:=cN (iN (aJ ind d) (bF (aJ ind d) j R));omega
   have n0:Hid (∀ (nv:Value) (U:World),Sx G B ind m U nv (bF (aJ ind d) j R)->_):=fun nv U h=>j2.out (bF (aJ ind d) j R) _ mb nv U h q9 o4;clear k8 d8 o4;generalize p9:bF (aJ ind d) (j+1) R=RN at *;generalize F3:bF (aJ ind d) j R=RJ at *;have o3:=aB p9;clear p9;generalize m9:iN (aJ ind d) RJ=di at *;have F7:=aB m9;clear m9
   by_cases r2:j=0
   ·subst r2;have h4:=aB (n0.out O wr i2.out)
    go_wp2_with fail
    refine h4.out.mono ?_;rintro e w8 ⟨v8,b5,rfl,o8,h8,g8⟩;obtain ⟨F8,b8,d1⟩:=o8.pa;obtain ⟨a8,c8,c2⟩:=o8.sl;have g1:G<Y.heap.size:=(by omega);have oI:=E.out.row g8 g1;have B3:=(GU.out).size;have s8:=g8.size;obtain ⟨v9,w9,j4,o9,g9⟩:=cD Y.heap.size w8 _ v8 _ _ F8 oI d1 (fun k y=>⟨by have:=(b8 k y).1;omega,(b8 k y).2,fun e=>by have h1:=(b8 k y).1;have h2:=(E.out.lt k e).2;omega⟩) (by omega) (by have h5:=b3;rw [h5];omega);obtain ⟨a9,c9,b2⟩:=o9.sl;have a5:(aH eg::itK (aJ ind d) 0 R++di).length=LL+di.length:=(by rw [List.length_append,b3]);rw [a5] at b2;have b6:∀ x,(Value.slice ia LL ic).ownBlock=some x->Y.heap.size<=x:=fun x e=>(E.out.lt x e).1;have j9:=aB (aY (aY GU.out g8 (fun x e=>by cases e;exact .inr rfl)) g9 (fun x e=>.inl (b6 x e)));have a4:Sx G B ind m w9 b5 RN:=oO h8 g9 (fun x e=>by have:=b6 x e;omega) (by omega) (by omega);have c5:Hid (Sx G B ind m w9 b5 (bF (aJ ind d) (0+1) R)):=by unfold Hid;rw [o3.out];exact a4
    have b9:Hid (PoL Y.heap.size w9 v9 (aH eg::itK (aJ ind d) (0+1) R)):=by
     unfold Hid;rw [j7.out];simpa [itK] using o9
    generalize di.length=DL at *;subst c2 b2;clear o8 o9 h8 g8 g9 d1 oI a4 h4 b6;go_wp2
    go_roundw
    case rel=>exact ⟨0+1,b5,by omega,by go_num,b9.out,c5.out,j9.out⟩
    case measure=>simp [intOf];omega
   ·have D1:(0:Int)<j:=by omega
    go_wp2_with fail
    refine (n9.out wr).mono ?_;rintro e w5 ⟨f5,D,rfl,b1,g5⟩;have f8:=aB b1;have G5:=aB g5;clear b1 g5
    go_wp2_with fail
    refine (v0.out w5).mono ?_;rintro e w6 ⟨f6,A,rfl,b0,g6⟩;have k5:=f8.out.moreB (B:=wr.heap.size) (Nat.le_refl _) g6;have k6:=b0.moreB (B:=wr.heap.size) G5.out.size (World.grownBy.refl _ _);have M:=aA G5.out g6;have J:=aFD M.size k5 k6;have gA:=World.grownBy_alloc w6 (Obj.cells #[.func (.func f5) #[] D,.func (.func f6) #[] A] 56) none;have D7:=M.size;obtain ⟨v7,w7,y1,o7,g7⟩:=cD Y.heap.size _ _ _ _ _ _ ((E.out.K M).K gA) J (fun k y=>⟨by have:=y.1;omega,y.2,fun e=>by have h1:=y.1;have h2:=(E.out.lt k e).2;omega⟩) (by simp;omega) (by rw [b3];simp;omega);obtain ⟨a7,c7,q4⟩:=o7.sl;have l4:(aH eg::itK (aJ ind d) j R++[aG [44],aH 2]).length=LL+2:=(by rw [List.length_append,b3];rfl);rw [l4] at q4;have d3:=aB o7;have b4:∀ x,(Value.slice ia LL ic).ownBlock=some x->Y.heap.size<=x:=fun x e=>(E.out.lt x e).1;have g1:G<Y.heap.size:=(by omega);have G7:=aB (aY (aY GU.out (aA M gA) (fun x e=>by cases e)) g7 (fun x e=>.inl (b4 x e)));have q0:Sx G B ind m w7 O RJ:=oO ((i2.out.K M).K gA) g7 (fun x e=>by have:=b4 x e;omega) (by omega) (by omega);have s3:=aB q0;have s7:=G7.out.size;subst q4;clear o7 g7 J gA M k5 k6 f8 b0 g6 G5 q0 E b4;have h4:=aB (n0.out O w7 s3.out)
    go_wp2_with fail
    refine h4.out.mono ?_;rintro e w8 ⟨v8,b5,rfl,o8,h8,g8⟩;obtain ⟨F8,b8,d1⟩:=o8.pa;obtain ⟨a8,c8,c2⟩:=o8.sl;have g1:G<Y.heap.size:=(by omega);have oI:=d3.out.row g8 g1;have D8:=(G7.out).size;have s8:=g8.size;obtain ⟨v9,w9,j4,o9,g9⟩:=cD Y.heap.size w8 _ v8 _ _ F8 oI d1 (fun k y=>⟨by have:=(b8 k y).1;omega,(b8 k y).2,fun e=>by have h1:=(b8 k y).1;have h2:=(d3.out.lt k e).2;omega⟩) (by omega) (by have h5:=l4;rw [h5];omega);obtain ⟨a9,c9,b2⟩:=o9.sl;have a5:(aH eg::itK (aJ ind d) j R++[aG [44],aH 2]++di).length=(LL+2)+di.length:=(by rw [List.length_append,l4]);rw [a5] at b2;have b6:∀ x,(Value.slice a7 (LL+2) c7).ownBlock=some x->Y.heap.size<=x:=fun x e=>(d3.out.lt x e).1;have j9:=aB (aY (aY G7.out g8 (fun x e=>by cases e;exact .inr rfl)) g9 (fun x e=>.inl (b6 x e)));have a4:Sx G B ind m w9 b5 RN:=oO h8 g9 (fun x e=>by have:=b6 x e;omega) (by omega) (by omega);have c5:Hid (Sx G B ind m w9 b5 (bF (aJ ind d) (j+1) R)):=by unfold Hid;rw [o3.out];exact a4
    have b9:Hid (PoL Y.heap.size w9 v9 (aH eg::itK (aJ ind d) (j+1) R)):=by
     unfold Hid;rw [j7.out];simpa [r2] using o9
    generalize di.length=DL at *;subst c2 b2;clear o8 o9 h8 g8 g9 d1 oI a4 h4 b6;go_wp2
    go_roundw
    case rel=>exact ⟨j+1,b5,by omega,by go_num,b9.out,c5.out,j9.out⟩
    case measure=>simp [intOf];omega
  ·have u5:j=c:=(by omega);subst u5;have u6:=d8 rfl;rw [u6] at i2;clear k8 d8 l6 j2 q9;have s4:=aB E.out
   go_wp2_with fail
   refine (n9.out wr).mono ?_;rintro e w5 ⟨f5,D,rfl,b1,g5⟩;have f8:=aB b1;have G5:=aB g5;clear b1 g5
   go_wp2_with fail
   refine (w1.out w5).mono ?_;rintro e w6 ⟨f6,A,rfl,b0,g6⟩;have k5:=f8.out.moreB (B:=wr.heap.size) (Nat.le_refl _) g6;have k6:=b0.moreB (B:=wr.heap.size) G5.out.size (World.grownBy.refl _ _);have M:=aA G5.out g6;have J:=aFD M.size k5 k6;have gA:=World.grownBy_alloc w6 (Obj.cells #[.func (.func f5) #[] D,.func (.func f6) #[] A] 56) none;have d2:=aB (lO 9 0 _ _ _ _ J (fun k h=>h.2) (by simp));have G6:=aB (aA M gA);have s6:=G6.out.size;clear J gA M k5 k6 f8 b0 g6 G5
   go_wp2_with fail
   refine d2.out.mono ?_;rintro e w7 ⟨f7,h3,rfl,d5,g7⟩;have s7:=g7.size;have k7:bP w7 (fun k=>wr.heap.size<=k/\k<w7.heap.size) f7 h3 yC:=d5.at (fun k y=>y.elim (fun h=>⟨h.1,by have:=h.2;omega⟩) (fun h=>⟨by have:=h.1;omega,h.2⟩)) (fun _ _=>rfl);have c4:=aA G6.out g7;have J:=rO c4.size k7;have gA:=World.grownBy_alloc w7 (Obj.cells #[.func (.func f7) #[] h3] 56) none;have F2:=c4.size;obtain ⟨v8,w8,z5,o8,g8⟩:=cD Y.heap.size _ _ _ _ _ _ ((E.out.K c4).K gA) J (fun k y=>⟨by have:=y.1;omega,y.2,fun e=>by have h1:=y.1;have h2:=(E.out.lt k e).2;omega⟩) (by simp;omega) (by rw [b3];simp;omega);obtain ⟨a8,c8,c2⟩:=o8.sl;have l7:(aH eg::itK (aJ ind d) j R++[yC]).length=LL+1:=(by rw [List.length_append,b3];rfl);rw [l7] at c2;have g1:G<Y.heap.size:=(by omega);have b4:∀ x,(Value.slice ia LL ic).ownBlock=some x->Y.heap.size<=x:=fun x e=>(E.out.lt x e).1;have G8:=aY (aY GU.out (aA c4 gA) (fun x e=>by cases e)) g8 (fun x e=>.inl (b4 x e));have q5:Sx G B ind m w8 O R2:=oO ((i2.out.K c4).K gA) g8 (fun x e=>by have:=b4 x e;omega) (by omega) (by omega)
   -- the comments
   have oT:=r0.out.row G8 (by omega);obtain ⟨FT,d6,q6⟩:=r0.out.pa;have i5:PaR w8 FT (.slice u1 TL x2) (cU p.tail):=q6.at (fun _ h=>h) G8.size (fun k h=>G8.block k (d6 k h).2 (fun e=>by have h1:=(d6 k h).1;simp only [Option.some.injEq] at e;omega));have s8:=G8.size;obtain ⟨v9,w9,j4,o9,g9⟩:=cD W.heap.size w8 v8 _ _ _ FT (o8.base s2) i5 (fun k y=>⟨(d6 k y).1,by have:=(d6 k y).2;omega,fun e=>by have h1:=(d6 k y).2;have h2:=(o8.lt k e).1;omega⟩) (by omega) (by rw [l7,o1];omega);obtain ⟨a9,c9,b2⟩:=o9.sl;have a5:((aH eg::itK (aJ ind d) j R++[yC])++cU p.tail).length=LL+1+TL:=(by rw [List.length_append,l7,o1]);rw [a5] at b2;have l8:∀ x,v8.ownBlock=some x->Y.heap.size<=x:=fun x e=>(o8.lt x e).1;have G9:=aB (aY G8 g9 (fun x e=>.inl (l8 x e)));have a4:Sx G B ind m w9 O R2:=oO q5 g9 (fun x e=>by have:=l8 x e;omega) (by omega) (by omega);have c5:=aB a4;have i6:(aH eg::itK (aJ ind d) j R++[yC])++cU p.tail=kC K (itK (aJ ind d) j R) p.tail:=(by simp [kC,i9]);rw [i6] at o9 a5;have b9:=aB o9;have E7:=a5;subst c2 b2;clear o8 o9 g8 g9 J gA c4 k7 d5 g7 G6 q5 a4 E b4 l8 oT i5 q6 G8 d2 s4 i6 a5;obtain ⟨F9,n6,n5⟩:=b9.out.pa;have d9:=aB n6;have i8:=aB n5;clear n6 n5;have s9:=G9.out.size
   go_wp2_with fail
   refine (p0.out w9).mono ?_;rintro e p2 ⟨f2,d0,rfl,q8,g2⟩;have r3:=aB (aDp G O ind _ _ F9 p2 (c5.out.K g2).shp (i8.out.at (fun _ h=>h) g2.size (fun k h=>g2.block k (d9.out k h).2 (by simp))) (fun k h=>Nat.lt_of_lt_of_le (d9.out k h).2 g2.size) (by omega));have p8:=aB q8;have n7:=aB g2;clear q8 g2 p0
   go_wp2_with fail
   refine r3.out.mono ?_;rintro e p3 ⟨j6,N,rfl,d4,g3⟩;have q1:=aB d4;have G3:=aB g3;clear d4 g3 r3
   go_wp2_with fail
   refine (l5.out p3).mono ?_;rintro e p4 ⟨f4,f9,rfl,r5,g4⟩;have m8:=aB r5;have q3:=aB g4;clear r5 g4 l5
   go_wp2_with fail
   refine (t1.out p4).mono ?_;rintro e p5 ⟨f5,D,rfl,b1,g5⟩;have t2:=n7.out.size;have t3:=G3.out.size;have t4:=q3.out.size;have t5:=g5.size;have k9:=aA q3.out g5;have l3:=aA G3.out k9;have r4:=aA n7.out l3;have k2:=p8.out.moreB (B:=w.heap.size) (by omega) l3;have k3:bP p5 (fun k=>w.heap.size<=k/\k<p5.heap.size) j6 N (iQ ind (kC K (itK (aJ ind d) j R) p.tail)):=q1.out.at (fun k y=>y.elim (fun h=>⟨by have:=(d9.out k h).1;omega,by have:=(d9.out k h).2;omega⟩) (fun h=>⟨by have:=h.1;omega,by have:=h.2;omega⟩)) (fun k y=>k9.block k (y.elim (fun h=>by have:=(d9.out k h).2;omega) (fun h=>h.2)) (by simp));have k4:=m8.out.moreB (B:=w.heap.size) (by omega) g5;have k5:=b1.moreB (B:=w.heap.size) (by omega) (World.grownBy.refl _ _);have o6:=aD4 (B:=w.heap.size) (by omega) k2 k3 k4 k5;have n8:=aB (rN _ _ _ _ o6 (fun k h=>h.2) (by simp));have gA:=World.grownBy_alloc p5 (Obj.cells #[.func (.func f2) #[] d0,.func (.func j6) #[] N,.func (.func f4) #[] f9,.func (.func f5) #[] D] 56) none;have GA:=aB (aA r4 gA);have m5:p5.heap.size+1=(p5.alloc (Obj.cells #[.func (.func f2) #[] d0,.func (.func j6) #[] N,.func (.func f4) #[] f9,.func (.func f5) #[] D] 56)).heap.size:=(by simp);have r1:=aB m5;clear k2 k3 k4 k5 o6 p8 q1 m8 b1 g5 k9 l3 r4 gA m5 i8 b9
   go_wp2_with fail
   refine n8.out.mono ?_;rintro e p6 ⟨f6,A,rfl,b0,g6⟩;have hA:=r1.out;have t6:=g6.size;have k6:bP p6 (fun k=>w.heap.size<=k/\k<p6.heap.size) f6 A (cV [aG [o],iQ ind (kC K (itK (aJ ind d) j R) p.tail),aH eg,aG [cl]]):=b0.at (fun k y=>y.elim (fun h=>⟨h.1,by have:=h.2;omega⟩) (fun h=>⟨by have:=h.1;omega,h.2⟩)) (fun _ _=>rfl);have J:=rO (B:=w.heap.size) (by omega) k6;have d2:=aB (lO 8 0 _ _ _ _ J (fun k h=>h.2) (by simp));have gB:=World.grownBy_alloc p6 (Obj.cells #[.func (.func f6) #[] A] 56) none;have GB:=aB (aA (aA GA.out g6) gB);have p1:p6.heap.size+1=(p6.alloc (Obj.cells #[.func (.func f6) #[] A] 56)).heap.size:=(by simp);have s5:=aB p1;clear k6 J b0 g6 gB n8 p1 hA
   go_wp2_with fail
   refine d2.out.mono ?_;rintro e p7 ⟨u0,i3,rfl,d5,g7⟩;have d3:=aB d5;have G7:=aB g7;clear d2 d5 g7;go_wp2;go_ret;have t7:=G7.out.size;have E1:=s5.out;have B7:=r1.out;refine ⟨u0,i3,O,rfl,?_,(c5.out.K GB.out).K G7.out,?_⟩
   ·rw [o5.out];have i7:=d3.out;rw [show [cV [aG [o],iQ ind (kC K (itK (aJ ind d) j R) p.tail),aH eg,aG [cl]]].flatten++[(⟨8,[],0⟩:Pc)]=cV [aG [o],iQ ind (kC K (itK (aJ ind d) j R) p.tail),aH eg,aG [cl]]++[⟨8,[],0⟩] by simp] at i7;exact i7.at (fun k y=>y.elim (fun h=>⟨h.1,by have:=h.2;omega⟩) (fun h=>⟨by have:=h.1;omega,h.2⟩)) (fun _ _=>rfl)
   ·have h1:=aY (fL (r:=some G) (aA HG.out G2.out)) G9.out (fun x e=>by cases e;exact .inr rfl);exact aY h1 (aA GB.out G7.out) (fun x e=>by cases e)
theorem mG.val {E B:Nat} {ind m:Int} {W:World} {ps:List Pc} {A:Value} {R:List Nod} {e:Ending} {w':World} (h:mG W ps e w') (G:Sx E B ind m W A R):pA E B ind m W ps R e w':=by
 obtain ⟨f,y,J,M,D⟩:=h;exact ⟨f,y,A,J,M,G.K D,fL D⟩
theorem aI5 (A:Nat) (p:Nod) (lv E G D tv:Value) (w:World) (B:Nat) (ind m:Int) (ps:List Pc) (S:List Nod)
  (sl:Sl lv p.L.length) (sk:Sl E p.key.length) (sx:Sl G p.X.length) (Z:Sl D p.U.length) (st:Sl tv p.tail.length)
  (h:∀ W:World,w.grownBy W none->Calls prog 95 #[.pointer (some ⟨A,0,none⟩),.agg #[.int .i64 p.k,lv,.bool p.mem,E,G,D,.int .i64 p.C,tv],.string { data:=#[91] },.string { data:=#[93] },.int .i64 3] W fun e w'=>pA A B ind m W ps S e w') :
  Calls prog 53 #[.pointer (some ⟨A,0,none⟩),.agg #[.int .i64 p.k,lv,.bool p.mem,E,G,D,.int .i64 p.C,tv]] w fun e w'=>pA A B ind m w ps S e w':=by
 obtain ⟨la,lc,rfl,_⟩:=sl;obtain ⟨ka,kc,rfl,_⟩:=sk;obtain ⟨xa,xc,rfl,_⟩:=sx;obtain ⟨ua,Y,rfl,_⟩:=Z;obtain ⟨ta,tc,rfl,_⟩:=st;have H:=aB h;clear h
 go_enter func53,ntmps53
 go_wp2_with fail
 refine (H.out _ gWA).mono ?_;rintro e w1 ⟨f,y,J,rfl,M,N,O⟩;have H1:=aB M;have H2:=aB N;have H3:=aB (aY (fL (r:=some A) (World.grownBy_alloc w (Obj.cells #[.int .i64 p.k,.slice la p.L.length lc,.bool p.mem,.slice ka p.key.length kc,.slice xa p.X.length xc,.slice ua p.U.length Y,.int .i64 p.C,.slice ta p.tail.length tc] 35) none)) O (fun x e=>by cases e;exact .inr rfl));clear H M N O;go_wp2;go_ret;exact ⟨f,y,J,rfl,H1.out.moreB (by simp) (World.grownBy.refl _ _),H2.out,H3.out⟩
theorem aHd (A:Nat) (p:Nod) (lv E G D tv:Value) (w:World) (B:Nat) (ind m:Int) (ps:List Pc) (S:List Nod)
  (sl:Sl lv p.L.length) (sk:Sl E p.key.length) (sx:Sl G p.X.length) (Z:Sl D p.U.length) (st:Sl tv p.tail.length)
  (h:∀ W:World,w.grownBy W none->Calls prog 95 #[.pointer (some ⟨A,0,none⟩),.agg #[.int .i64 p.k,lv,.bool p.mem,E,G,D,.int .i64 p.C,tv],.string { data:=#[123] },.string { data:=#[125] },.int .i64 2] W fun e w'=>pA A B ind m W ps S e w') :
  Calls prog 54 #[.pointer (some ⟨A,0,none⟩),.agg #[.int .i64 p.k,lv,.bool p.mem,E,G,D,.int .i64 p.C,tv]] w fun e w'=>pA A B ind m w ps S e w':=by
 obtain ⟨la,lc,rfl,_⟩:=sl;obtain ⟨ka,kc,rfl,_⟩:=sk;obtain ⟨xa,xc,rfl,_⟩:=sx;obtain ⟨ua,Y,rfl,_⟩:=Z;obtain ⟨ta,tc,rfl,_⟩:=st;have H:=aB h;clear h
 go_enter func54,ntmps54
 go_wp2_with fail
 refine (H.out _ gWA).mono ?_;rintro e w1 ⟨f,y,J,rfl,M,N,O⟩;have H1:=aB M;have H2:=aB N;have H3:=aB (aY (fL (r:=some A) (World.grownBy_alloc w (Obj.cells #[.int .i64 p.k,.slice la p.L.length lc,.bool p.mem,.slice ka p.key.length kc,.slice xa p.X.length xc,.slice ua p.U.length Y,.int .i64 p.C,.slice ta p.tail.length tc] 35) none)) O (fun x e=>by cases e;exact .inr rfl));clear H M N O;go_wp2;go_ret;exact ⟨f,y,J,rfl,H1.out.moreB (by simp) (World.grownBy.refl _ _),H2.out,H3.out⟩
theorem aDN (y B:Nat) (ind m:Int) (hB:B<=y) (a4:1<y):∀ (d:Nat) (R R2:List Nod) (m':Bool) (nv:Value) (w:World),Sx y B ind m w nv R->NsK R->aE bC d m' (R,())=some (R2,())->
  Calls prog 55 #[.pointer (some ⟨y,0,none⟩)] w fun e w'=>aCf y B ind m w (iN (aJ ind d) R) R2 e w'
 | 0,R,R2,m',nv,w,_,_,hw=>by simp [aE] at hw
 | d+1,[],R2,m',nv,w,_,_,hw=>by simp [aE] at hw
 | d+1,p::R,R2,m',nv,w,hs,hN,hw=>by
   have b9:=hN.nd p (by simp);have M:=hN.ok p (by simp);have Y:wN p<=2000000:=(by have:=hN.wt;simp only [wNs] at this;omega);have c2:NsK R:=hN.sub (P:=[p]) rfl
   have hl:aO (aE bC d (decide (p.k=6))) p.C.toNat (R,())=some (R2,()):=by
    by_cases hm:p.mem≠m'
    ·simp [aE,hm] at hw
    ·by_cases h0:5<=p.k/\d=0
     ·simp [aE,hm,h0,bC] at hw
     ·simpa only [aE,if_neg hm,if_neg h0,bC,Option.bind_some] using hw
   show Calls _ _ _ w fun e w'=>aCf y B ind m w (bM p.L++(pB p++[(aJ ind (d+1) (p::R)).1])) R2 e w'
   have d0:=b9.1
   by_cases h5:p.k<5
   ·have Z:=(b9.2.2.2.2.2.2.2.2.2.1 h5).1;rw [Z] at hl;simp only [Int.toNat_zero,aO,Option.some.injEq,Prod.mk.injEq,and_true] at hl;subst hl;have b3:(aJ ind (d+1) (p::R)).1=fA p:=(by simp only [aJ,if_pos h5]);rw [b3];rcases (show p.k=0\/p.k=1\/p.k=2\/p.k=3\/p.k=4 by omega) with J | J | J | J | J
    ·have a7:fA p=aG aLk:=(by unfold fA;rw [if_neg (by omega),if_neg (by omega),if_pos J]);rw [a7];refine mQ y B ind m hB a4 p R R _ nv w hs M Y 0 (by rw [J];rfl) (by omega) 92 #[] #[.pointer (some ⟨y+1,0,none⟩)] (fun args W=>by kernel_rfl) (fun W A h=>h.v0.1) (fun W A lv E G D tv S rl rk sk rx sx ru su N=>?_);have e:(#[]:Array Value)++#[.agg #[.int .i64 p.k,lv,.bool p.mem,E,G,D,.int .i64 p.C,tv]]++#[.pointer (some ⟨y+1,0,none⟩)]=#[.agg #[.int .i64 p.k,lv,.bool p.mem,E,G,D,.int .i64 p.C,tv],.pointer (some ⟨y+1,0,none⟩)]:=(by simp);rw [e];exact (sZ p lv E G D tv (y+1) aLk (by intro z hz;simp at hz;omega) (by simp) W S.shp.v0.2 rl.sl sk sx su N.sl).mono fun e w' h=>h.val S
    ·have a7:fA p=aG aK1:=(by unfold fA;rw [if_neg (by omega),if_neg (by omega),if_neg (by omega),if_pos J]);rw [a7];refine mQ y B ind m hB a4 p R R _ nv w hs M Y 1 (by rw [J];rfl) (by omega) 92 #[] #[.pointer (some ⟨y+2,0,none⟩)] (fun args W=>by kernel_rfl) (fun W A h=>h.v1.1) (fun W A lv E G D tv S rl rk sk rx sx ru su N=>?_);have e:(#[]:Array Value)++#[.agg #[.int .i64 p.k,lv,.bool p.mem,E,G,D,.int .i64 p.C,tv]]++#[.pointer (some ⟨y+2,0,none⟩)]=#[.agg #[.int .i64 p.k,lv,.bool p.mem,E,G,D,.int .i64 p.C,tv],.pointer (some ⟨y+2,0,none⟩)]:=(by simp);rw [e];exact (sZ p lv E G D tv (y+2) aK1 (by intro z hz;simp at hz;omega) (by simp) W S.shp.v1.2 rl.sl sk sx su N.sl).mono fun e w' h=>h.val S
    ·have a7:fA p=aG aK5:=(by unfold fA;rw [if_neg (by omega),if_neg (by omega),if_neg (by omega),if_neg (by omega)]);rw [a7];refine mQ y B ind m hB a4 p R R _ nv w hs M Y 2 (by rw [J];rfl) (by omega) 92 #[] #[.pointer (some ⟨y+3,0,none⟩)] (fun args W=>by kernel_rfl) (fun W A h=>h.v2.1) (fun W A lv E G D tv S rl rk sk rx sx ru su N=>?_);have e:(#[]:Array Value)++#[.agg #[.int .i64 p.k,lv,.bool p.mem,E,G,D,.int .i64 p.C,tv]]++#[.pointer (some ⟨y+3,0,none⟩)]=#[.agg #[.int .i64 p.k,lv,.bool p.mem,E,G,D,.int .i64 p.C,tv],.pointer (some ⟨y+3,0,none⟩)]:=(by simp);rw [e];exact (sZ p lv E G D tv (y+3) aK5 (by intro z hz;simp at hz;omega) (by simp) W S.shp.v2.2 rl.sl sk sx su N.sl).mono fun e w' h=>h.val S
    ·have a7:fA p=aG p.X:=(by unfold fA;rw [if_pos J]);rw [a7];refine mQ y B ind m hB a4 p R R _ nv w hs M Y 3 (by rw [J];rfl) (by omega) 51 #[] #[] (fun args W=>by kernel_rfl) (fun W A h=>h.v3) (fun W A lv E G D tv S rl rk sk rx sx ru su N=>?_);have e:(#[]:Array Value)++#[.agg #[.int .i64 p.k,lv,.bool p.mem,E,G,D,.int .i64 p.C,tv]]++#[]=#[.agg #[.int .i64 p.k,lv,.bool p.mem,E,G,D,.int .i64 p.C,tv]]:=(by simp);rw [e];have c4:=S.lt;exact (aD8 p lv E G D tv W (rx.wideC (by omega)) sx M.x.2 M.x.1 rl.sl sk su N.sl).mono fun e w' h=>h.val S
    ·have a7:fA p=aG (quR p.U).1:=(by unfold fA;rw [if_neg (by omega),if_pos J]);rw [a7];refine mQ y B ind m hB a4 p R R _ nv w hs M Y 4 (by rw [J];rfl) (by omega) 52 #[] #[] (fun args W=>by kernel_rfl) (fun W A h=>h.v4) (fun W A lv E G D tv S rl rk sk rx sx ru su N=>?_);have e:(#[]:Array Value)++#[.agg #[.int .i64 p.k,lv,.bool p.mem,E,G,D,.int .i64 p.C,tv]]++#[]=#[.agg #[.int .i64 p.k,lv,.bool p.mem,E,G,D,.int .i64 p.C,tv]]:=(by simp);rw [e];have c4:=S.lt;exact (aEN p lv E G D tv W S.tab (ru.wideC (by omega)) su M.u rl.sl sk sx N.sl).mono fun e w' h=>h.val S
   ·have b3:(aJ ind (d+1) (p::R)).1=kB ind p (itK (aJ ind d) p.C.toNat R):=(by simp only [aJ,if_neg h5]);rw [b3];have d1:=b9.2.2.2.2.2.2.2.2.2.2;have c9:=hN.cn p (by simp);have IT:∀ (R R2:List Nod) (m':Bool) (nv:Value) (w:World),Sx y B ind m w nv R->NsK R->aE bC d m' (R,())=some (R2,())->_:=fun R R2 m' nv w a b c=>aDN y B ind m hB a4 d R R2 m' nv w a b c;rcases (show p.k=5\/p.k=6 by omega) with J | J
    ·refine mQ y B ind m hB a4 p R R2 _ nv w hs M Y 5 (by rw [J];rfl) (by omega) 53 #[.pointer (some ⟨y,0,none⟩)] #[] (fun args W=>by kernel_rfl) (fun W A h=>h.v5) (fun W A lv E G D tv S rl rk sk rx sx ru su N=>?_);have e:(#[.pointer (some ⟨y,0,none⟩)]:Array Value)++#[.agg #[.int .i64 p.k,lv,.bool p.mem,E,G,D,.int .i64 p.C,tv]]++#[]=#[.pointer (some ⟨y,0,none⟩),.agg #[.int .i64 p.k,lv,.bool p.mem,E,G,D,.int .i64 p.C,tv]]:=(by simp);rw [e];refine aI5 y p lv E G D tv W B ind m _ R2 rl.sl sk sx su N.sl (fun W' O=>?_);rw [J] at hl
     by_cases Z:p.C=0
     ·rw [Z] at hl;simp only [Int.toNat_zero,aO,Option.some.injEq,Prod.mk.injEq,and_true] at hl;subst hl;unfold kB;rw [if_pos Z]
      by_cases ht:p.tail=[]
      ·rw [if_pos ht,show jY p.k=91 by rw [J];rfl,show kW p.k=93 by rw [J];rfl];exact aBH 91 93 3 (by omega) (by omega) y B ind m p R A lv E G D tv W' (S.K O) Z ht rl.sl sk sx su N.sl
      ·rw [if_neg ht];have hr:=aBq 91 93 3 (by omega) (by omega) y B ind m hB p R A lv E G D tv W' (S.K O) M Y Z ht (N.K O) rl.sl sk sx su N.sl;rw [show jY p.k=91 by rw [J];rfl,show kW p.k=93 by rw [J];rfl];exact hr
     ·exact zY 91 93 3 (by omega) (by omega) 5 false rfl rfl rfl y B ind m hB a4 d IT p R R2 A lv E G D tv W' (S.K O) c2 J M Y p.C.toNat (by omega) (by omega) (by omega) (by simpa using hl) (N.K O) rl.sl sk sx su N.sl
    ·refine mQ y B ind m hB a4 p R R2 _ nv w hs M Y 6 (by rw [J];rfl) (by omega) 54 #[.pointer (some ⟨y,0,none⟩)] #[] (fun args W=>by kernel_rfl) (fun W A h=>h.v6) (fun W A lv E G D tv S rl rk sk rx sx ru su N=>?_);have e:(#[.pointer (some ⟨y,0,none⟩)]:Array Value)++#[.agg #[.int .i64 p.k,lv,.bool p.mem,E,G,D,.int .i64 p.C,tv]]++#[]=#[.pointer (some ⟨y,0,none⟩),.agg #[.int .i64 p.k,lv,.bool p.mem,E,G,D,.int .i64 p.C,tv]]:=(by simp);rw [e];refine aHd y p lv E G D tv W B ind m _ R2 rl.sl sk sx su N.sl (fun W' O=>?_);rw [J] at hl
     by_cases Z:p.C=0
     ·rw [Z] at hl;simp only [Int.toNat_zero,aO,Option.some.injEq,Prod.mk.injEq,and_true] at hl;subst hl;unfold kB;rw [if_pos Z]
      by_cases ht:p.tail=[]
      ·rw [if_pos ht,show jY p.k=123 by rw [J];rfl,show kW p.k=125 by rw [J];rfl];exact aBH 123 125 2 (by omega) (by omega) y B ind m p R A lv E G D tv W' (S.K O) Z ht rl.sl sk sx su N.sl
      ·rw [if_neg ht];have hr:=aBq 123 125 2 (by omega) (by omega) y B ind m hB p R A lv E G D tv W' (S.K O) M Y Z ht (N.K O) rl.sl sk sx su N.sl;rw [show jY p.k=123 by rw [J];rfl,show kW p.k=125 by rw [J];rfl];exact hr
     ·exact zY 123 125 2 (by omega) (by omega) 6 true rfl rfl rfl y B ind m hB a4 d IT p R R2 A lv E G D tv W' (S.K O) c2 J M Y p.C.toNat (by omega) (by omega) (by omega) (by simpa using hl) (N.K O) rl.sl sk sx su N.sl
theorem aGi (ps qs:List Pc):iO (ps,true) qs=(ps,true):=by
 induction qs with
 | nil=>rfl
 | cons q qs ih=>show iO (nJ (ps,true) q) qs=_;rw [show nJ (ps,true) q=(ps,true) by simp [nJ]];exact ih
theorem aIt (a b:List Pc):cM (a++b)=cM a+cM b:=by
 induction a with
 | nil=>simp [cM]
 | cons p a ih=>simp only [List.cons_append,cM,ih];omega
theorem aGj (qs:List Pc):∀ (ps:List Pc),ps.length<=40000->cM ps<=100000->(iO (ps,false) qs).2=dU (ps++qs)/\(dU (ps++qs)=false->(iO (ps,false) qs).1=ps++qs):=by
 induction qs with
 | nil=>
   intro ps A G;have y:dU (ps++[])=false:=(by simp [dU];omega);rw [y];exact ⟨rfl,fun _=>by simp [iO]⟩
 | cons q qs ih=>
   intro ps A G;have E:=iC qs
   show (iO (nJ (ps,false) q) qs).2=_/\_
   by_cases h:ps.length=40000\/100000 - cM ps<(q.t.length:Int)
   ·have e:nJ (ps,false) q=(ps,true):=by unfold nJ;rw [if_pos (.inr h)]
    have y:dU (ps++q::qs)=true:=by
     have D:cM (ps++q::qs)=cM ps+(q.t.length+cM qs):=(by rw [aIt];rfl);unfold dU;rw [D,Bool.or_eq_true];rcases h with h | h
     ·left;simp;omega
     ·right;rw [decide_eq_true_eq];omega
    rw [e,aGi,y];exact ⟨rfl,fun h=>by cases h⟩
   ·have e:nJ (ps,false) q=(ps++[q],false):=(by unfold nJ;rw [if_neg (by simp;omega)]);rw [e];have:=ih (ps++[q]) (by simp;omega) (by rw [rU];omega);simpa [iO,e] using this
theorem aH4 (ps:List Pc):(iO ([],false) ps).2=dU ps/\(dU ps=false->(iO ([],false) ps).1=ps):=by
 have:=aGj ps [] (by simp) (by simp [cM]);simpa using this
theorem aGz (M B:Nat) (ind m:Int) (hB:B<=M) (b0:1<M) (R:List Nod) (tail:List Cm) (nv tv:Value) (w:World) (hs:Sx M B ind m w nv R) (hN:NsK R) (hw:aE bC 201 false (R,())=some ([],())) (rt:RdC B w tv tail) (f7:xC tail) (j0:wC tail<=2000000) :
  Calls prog 24 #[.pointer (some ⟨M,0,none⟩),tv] w fun e w'=>∃ f G,e=.returned (.func (.func f) #[] G)/\bP w' (fun k=>w.heap.size<=k/\k<w'.heap.size) f G (cV (iN (aJ ind 201) R++[aH 4]++bM tail))/\w.grownBy w' (some M):=by
 have HI:=aB (aDN M B ind m hB b0 201 R [] false nv w hs hN hw);have j7:=hs.lt;have HL:Hid (∀ U:World,_):=fun U=>dW 4 U
 have j6:(iN (aJ ind 201) R).length<=2000020:=by
  rcases R with _ | ⟨n,R⟩
  ·simp [aE] at hw
  ·obtain ⟨n',P,hP,hm⟩:=rL ind 201 false (n::R) [] hw (fun p hp h5=>((hN.nd p hp).2.2.2.2.2.2.2.2.2.1 h5).1);have hn:n=n':=(by simp at hP;exact hP.1);subst hn;have h1:=aBk (V:=aJ ind 201) n R (wN n+wNs P) (by omega);have h2:=cN (iN (aJ ind 201) (n::R));have h3:=hN.wt;have h4:wNs (n::R)=wN n+wNs P:=(by rw [hP];simp [wNs]);omega
 have i6:=iB tail;have g0:=cN (bM tail);obtain ⟨ta,tc,f4,_,_⟩:=rt.sl;have f5:=aB rt;have HM:=aB hs.mx;subst f4;clear hs hN hw rt
 go_enter func24,ntmps24
 go_wp2_with fail
 refine HI.out.mono ?_;rintro e w1 ⟨v1,d9,rfl,o1,h1,g1⟩;obtain ⟨pa,pc,d6⟩:=o1.sl;generalize Z:(iN (aJ ind 201) R).length=L1 at *;have D:=aB o1;have G1:=aB g1;have b1:=aB h1;subst d6;clear o1 h1 g1 HI
 go_wp2_with fail
 refine (HL.out w1).mono ?_;rintro e w2 ⟨f2,J,rfl,b9,Y⟩;have a6:=rO Y.size b9;have gA:=World.grownBy_alloc w2 (Obj.cells #[.func (.func f2) #[] J] 56) none;have s1:=G1.out.size;have s2:=Y.size;obtain ⟨v3,w3,i0,o3,g3⟩:=cD w.heap.size _ _ _ _ _ _ ((D.out.K Y).K gA) a6 (fun k E=>⟨by have:=E.1;omega,E.2,fun e=>by have h1:=E.1;have h2:=(D.out.lt k e).2;omega⟩) (by simp;omega) (by rw [Z];simp;omega);obtain ⟨a3,c3,b2⟩:=o3.sl;have O:(iN (aJ ind 201) R++[aH 4]).length=L1+1:=(by rw [List.length_append,Z];rfl);rw [O] at b2;have X:∀ x,(Value.slice pa L1 pc).ownBlock=some x->w.heap.size<=x:=fun x e=>(D.out.lt x e).1;have G3:=aB (aY (aY (aY G1.out Y (fun x e=>by cases e)) gA (fun x e=>by cases e)) g3 (fun x e=>.inl (X x e)));have b5:Sx M B ind m w3 d9 []:=oO ((b1.out.K Y).K gA) g3 (fun x e=>by have:=X x e;omega) hB b0;have s3:=G3.out.size;have a8:=aB (mP (.slice ta tail.length tc) tail m w3 ((f5.out.beside G3.out (fun k e=>by cases e;exact hB)).wide (by omega)) f7 (by omega) b5.mx);have y:=aB o3;subst b2;clear o3 g3 a6 gA b9 Y b5 X D b1 HL
 go_wp2_with fail
 refine a8.out.mono ?_;rintro e w4 ⟨v4,rfl,o4,g4⟩;obtain ⟨F4,A,c1⟩:=o4.pa;obtain ⟨a4,c4,c0⟩:=o4.sl;have s4:=g4.size;obtain ⟨v5,w5,h7,o5,g5⟩:=cD w.heap.size w4 _ v4 _ _ F4 (y.out.K g4) c1 (fun k E=>⟨by have:=(A k E).1;omega,(A k E).2,fun e=>by have h1:=(A k E).1;have h2:=(y.out.lt k e).2;omega⟩) (by omega) (by rw [O];omega);obtain ⟨a5,c5,b7⟩:=o5.sl;have b4:∀ x,(Value.slice a3 (L1+1) c3).ownBlock=some x->w.heap.size<=x:=fun x e=>(y.out.lt x e).1;have G5:=aB (aY (aY G3.out g4 (fun x e=>by cases e)) g5 (fun x e=>.inl (b4 x e)));obtain ⟨F5,N,b8⟩:=o5.pa;have b3:=aB (rN v5 _ F5 w5 b8 (fun k h=>(N k h).2) (by rw [List.length_append,O];omega));have a9:=aB N;generalize (iN (aJ ind 201) R++[aH 4]++bM tail).length=L5 at b7;generalize (bM tail).length=L4 at c0;subst c0 b7;clear o4 o5 g4 g5 c1 A b8 N b4 y a8
 go_wp2_with fail
 refine b3.out.mono ?_;rintro e w6 ⟨f6,S,rfl,b6,g6⟩;have d5:=aB b6;have G6:=aB (aY G5.out g6 (fun x e=>by cases e));have s6:=g6.size;have s5:=G5.out.size;clear b3 b6 g6;go_wp2;go_ret;exact ⟨f6,S,rfl,d5.out.at (fun k E=>E.elim (fun h=>⟨(a9.out k h).1,by have:=(a9.out k h).2;omega⟩) (fun h=>⟨by have:=h.1;omega,h.2⟩)) (fun _ _=>rfl),G6.out⟩
end Go.Proofs.YtmfehflibkokbaaGreatDoor
