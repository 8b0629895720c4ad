import Derived.Test.YtmfehflibkokbaaGreatDoorMBH
set_option maxHeartbeats 16000000
set_option maxRecDepth 100000
namespace Go.Proofs.YtmfehflibkokbaaGreatDoor
open Go.Proofs.Tryz
open Go.RowKit
attribute [-go_sem] Builtin.append_
theorem aAA (t:Tre) (ind:Int) (hD:pM t) (d:Nat) (hd:d<=202) (IH:∀ (j:Nat) (R2:List Nod) (m:Bool) (nv tv:Value) (w:World),j<t.N.length->aE bC d m (t.N.drop j,())=some (R2,())->eF w.heap.size w nv tv t->
   Calls prog 41 #[.agg #[nv,tv],.int .i64 j,.int .i64 ind] w fun e w'=>∃ v',e=.returned v'/\PoR w.heap.size w' v' (aJ ind d (t.N.drop j)).1/\w.grownBy w' none)
  (i:Nat) (hi:i<t.N.length) (hk:t.N[i].k=6) (D3:0<t.N[i].C) (R2:List Nod) (hw:aO (aE bC d true) t.N[i].C.toNat (t.N.drop (i+1),())=some (R2,())) (nv tv:Value) (w:World) (hv:eF w.heap.size w nv tv t) :
  Calls prog 41 #[.agg #[nv,tv],.int .i64 i,.int .i64 ind] w fun e w'=>∃ v',e=.returned v'/\PoR w.heap.size w' v' (kB ind t.N[i] (itK (aJ ind d) t.N[i].C.toNat (t.N.drop (i+1))))/\w.grownBy w' none:=by
 have o0:=aB (aDl t ind d true (i+1) t.N[i].C.toNat R2 hw (fun p hp h5=>((hD.nd p hp).2.2.2.2.2.2.2.2.2.1 h5).1));have t4:Hid (∀ a,a<t.N.length->∀ R3,aE bC d true (t.N.drop a,())=some (R3,())->∀ h:a<t.N.length,t.N[a].mem=true):=fun a ha R3 h3 h=>aDb t d true a R3 h3 h;have HV:=aB hv;have E2:=aB IH;have E3:=hD.len;clear hw IH;obtain ⟨n5,y8⟩:=id hv;have HD:=aB hD;obtain ⟨na,f9,D9,_⟩:=id n5;obtain ⟨ta,d9,F3,_⟩:=id y8;obtain ⟨b,off,M4,lv,kv,xv,uv,qv,n0,P3,hp⟩:=n5.at i hi;have u0:=Nat.le_trans (kO _ _ (List.getElem_mem hi)) hD.wt;have D2:=hD.cn _ (List.getElem_mem hi);have l9:wC t.N[i].tail<=2000000:=(by have:=u0;unfold wN at this;omega);have z0:=hp.k;have z1:=hp.L;have z2:=hp.mem;have z3:=hp.key;have z4:=hp.X;have z5:=hp.U;have z6:=hp.C;have z7:=hp.tail;have t0:=aB hp.rt;obtain ⟨la,u6,n7,_,_⟩:=hp.rl.sl;obtain ⟨qa,h9,D0,_,_⟩:=hp.rt.sl;obtain ⟨ka,r7,n2,_,_⟩:=hp.sk;obtain ⟨xa,r4,E7,_,_⟩:=hp.sx;obtain ⟨ua,r2,B7,_,_⟩:=hp.su;subst n7 D0 n2 E7 B7 n0 F3;cases D9;clear n5 y8 hv hp;generalize t.N[i]=p at *;obtain ⟨wA,j6⟩:∃ wA,wA=w.alloc (Obj.cells #[.slice (some ⟨b,off,none⟩) t.N.length f9,.slice ta t.tail.length d9] 26):=⟨_,rfl⟩;have gA:w.grownBy wA none:=(by rw [j6];exact gWA);have u9:=gA.cell z0 (by simp);have F8:=gA.cell z1 (by simp);have C3:=gA.cell z2 (by simp);have G3:=gA.cell z3 (by simp);have D4:=gA.cell z4 (by simp);have E4:=gA.cell z5 (by simp);have x2:=gA.cell z6 (by simp);have B9:=gA.cell z7 (by simp);have sA:wA.heap.size=w.heap.size+1:=(by rw [j6];simp);clear z0 z1 z2 z3 z4 z5 z6 z7;rw [hk] at u9;obtain ⟨c,hc⟩:∃ c:Nat,p.C=(c:Int):=⟨p.C.toNat,by omega⟩;have t8:p.C.toNat=c:=(by omega);rw [t8] at o0 ⊢;rw [hc] at x2 D2 D3;have P6:0<c:=(by omega);have O1:((c:Int)==0)=false:=(by simp;omega);have y3:=aB (show kB ind p (itK (aJ ind d) c (t.N.drop (i+1)))=cV [aG [123],iQ ind (kC 6 (itK (aJ ind d) c (t.N.drop (i+1))) p.tail),aH 2,aG [125]]++[⟨8,[],0⟩] by unfold kB;rw [if_neg (by omega),hk];rfl);obtain ⟨y,G⟩:∃ y,y=(wA.alloc (Obj.cells #[.int .i64 6,.slice la p.L.length u6,.bool p.mem,.slice ka p.key.length r7,.slice xa p.X.length r4,.slice ua p.U.length r2,.int .i64 c,.slice qa p.tail.length h9] 35)).alloc (Obj.cells #[.string { data:=#[110,117,108,108] },.string { data:=#[116,114,117,101] },.string { data:=#[102,97,108,115,101] }] 9):=⟨_,rfl⟩;have gg:w.grownBy y none:=(by rw [G];exact aA gA (aA gWA gWA));have P8:y.heap.size=w.heap.size+3:=(by rw [G];simp [sA]);have GG:=aB gg;have y0:y.cell? ⟨w.heap.size,0,none⟩=some (.slice (some ⟨b,off,none⟩) t.N.length f9):=(by rw [G,j6];simp [go_sem]);have y1:y.cell? ⟨w.heap.size,1,none⟩=some (.slice ta t.tail.length d9):=(by rw [G,j6];simp [go_sem]);have y6:y.cell? ⟨w.heap.size+1,6,none⟩=some (.int .i64 c):=(by rw [G,<- sA];simp [go_sem]);have y7:y.cell? ⟨w.heap.size+1,7,none⟩=some (.slice qa p.tail.length h9):=(by rw [G,<- sA];simp [go_sem]);have Y:=aB (show _/\_/\_/\_ from ⟨y0,y1,y6,y7⟩);have r5:Hid (∀ W:World,_):=fun W=>cL [123] (by intro z hz;simp at hz;omega) (by simp) W;have x8:Hid (∀ W:World,_):=fun W=>cL [125] (by intro z hz;simp at hz;omega) (by simp) W;have s8:Hid (∀ W:World,_):=fun W=>cL [44] (by intro z hz;simp at hz;omega) (by simp) W;have z8:Hid (∀ W:World,_):=fun W=>dJ 2 W;have H3:Hid (∀ W:World,_):=fun W=>dJ 0 W;have E9:Hid (∀ W:World,_):=fun W=>dJ 2 W;have t7:=aB ((t0.out.K gg).wide gg.size);have P2:=kS p.tail;have s0:=aB l9;have HX:=aB (z8.out y);have P4:=hk;clear gA gg t0 l9 u0 y0 y1 y6 y7 hc t8;subst j6;have F7:=aB G;rw [G] at HX;clear G
 go_enter func41,ntmps41
 go_wp2_with fail
 refine HX.out.mono ?_;rintro e w4 ⟨v4,rfl,o4,g4⟩;have G:=F7.out;rw [<- G] at o4 g4;clear G;obtain ⟨v5,w5,L1,o5,g5,_,⟨a5,c5,D7⟩,_⟩:=(DoR.nil y.heap.size y).push g4 o4 (Nat.le_refl _) (by simp);obtain ⟨a4,c4,g0,_,_⟩:=o4.sl;have G5:Hid (Below y.heap.size y w5):=aT (bA (World.grownBy.refl _ _) g5 (fun j e=>by cases e));have F1:=aB o5;simp only [aH,List.length_singleton] at g0;subst g0 D7;clear HX o4 o5 g4 g5 u9 F8 C3 G3 D4 E4 x2 B9;go_wp2
 go_loopw [14,16,17] (fun r A8 k W=>∃ (j:Nat),j<=c/\k=.int .i64 j/\A8=.int .i64 ((t.N.length - (bF (aJ ind d) j (t.N.drop (i+1))).length:Nat):Int)/\DoR y.heap.size W r (aH 2::itK (aJ ind d) j (t.N.drop (i+1)))/\Below y.heap.size y W)
  (fun _ _ k _=>c - (intOf k).toNat)
 case atStart=>
  refine ⟨0,Nat.zero_le _,rfl,?_,F1.out,G5.out⟩;simp only [bF,List.length_drop];congr 1;omega
 case round=>
  obtain ⟨j,hj,rfl,rfl,ho,b1⟩:=hrel;obtain ⟨a,ha,v0,s7,R4,p2⟩:=o0.out j hj;have C9:=HD.out.wt;rw [<- s7];clear s7;have P7:=cN (itK (aJ ind d) j (t.N.drop (i+1)));have k2:=b1.size;obtain ⟨y0,y1,y6,y7⟩:=Y.out;have x0:wr.cell? ⟨w.heap.size,0,none⟩=some (.slice (some ⟨b,off,none⟩) t.N.length f9):=(by rw [b1.cell (by simp;omega)];exact y0);have x1:wr.cell? ⟨w.heap.size,1,none⟩=some (.slice ta t.tail.length d9):=(by rw [b1.cell (by simp;omega)];exact y1);have x6:wr.cell? ⟨w.heap.size+1,6,none⟩=some (.int .i64 c):=(by rw [b1.cell (by simp;omega)];exact y6);have x7:wr.cell? ⟨w.heap.size+1,7,none⟩=some (.slice qa p.tail.length h9):=(by rw [b1.cell (by simp;omega)];exact y7);clear y0 y1 y6 y7;have HO:=aB ho;have HB:=aB b1;obtain ⟨ra,rc,D1,_,_⟩:=ho.sl;generalize d3:(aH 2::itK (aJ ind d) j (t.N.drop (i+1))).length=LL at *;have z9:LL<=2000001:=(by rw [<- d3,List.length_cons];omega);subst D1;clear ho b1
  by_cases B8:j<c
  ·obtain ⟨h7,l5⟩:=p2 B8;obtain ⟨b',J5,C1,lv,kv,xv,uv,qv,n0,I8,hq⟩:=HV.out.1.at a h7;cases n0;have k1:=t4.out a h7 _ l5 h7;have n8:=Nat.le_trans (kO _ _ (List.getElem_mem h7)) C9;have N0:wC t.N[a].L<=2000000:=(by have:=n8;unfold wN at this;omega);have O4:6*t.N[a].key.length<=2000000:=(by have:=n8;unfold wN at this;omega);have M7:=xM t.N[a].key;have b4:=GG.out;have y9:Hid (RdC y.heap.size y lv t.N[a].L):=(hq.rl.K b4).wide b4.size;have y2:Hid (RdI y.heap.size y kv t.N[a].key):=(hq.rk.K b4).wideC b4.size;have q1:=b4.cell hq.L (by simp);have q2:=b4.cell hq.mem (by simp);have q3:=b4.cell hq.key (by simp);have p1:b<y.heap.size:=(by omega);obtain ⟨D6,n6,n7,_,_⟩:=hq.rl.sl;obtain ⟨E1,n3,n2,_,_⟩:=hq.sk;rw [k1] at q2;have w6:t.N.drop a=t.N[a]::t.N.drop (a+1):=List.drop_eq_getElem_cons h7;have m1:=aB (show iN (aJ ind d) (bF (aJ ind d) j (t.N.drop (i+1)))=bM t.N[a].L++(pB t.N[a]++[(aJ ind d (t.N.drop a)).1]) by rw [v0,w6];rfl);have A0:=aB (show pB t.N[a]=[aG (fS t.N[a].key++[58,32])] by unfold pB;rw [k1];rfl);have x3:Hid (∀ W:World,Below y.heap.size y W->eF W.heap.size W (.slice (some ⟨b,off,none⟩) t.N.length f9) (.slice ta t.tail.length d9) t):=fun W g=>wK (HV.out.1.K b4) (HV.out.2.K b4) b4.size g;have l8:Hid (∀ W:World,Below y.heap.size y W->_):=fun W (g:Below y.heap.size y W)=>E2.out a _ true _ _ W h7 l5 (x3.out W g);have m7:Hid (∀ W:World,Below y.heap.size y W->_):=fun W (g:Below y.heap.size y W)=>yP t (by omega) (fun p hp h5=>((HD.out.nd p hp).2.2.2.2.2.2.2.2.2.1 h5).1) HD.out.cn d a true _ hd h7 l5 _ _ W (x3.out W g);subst n7 n2;have O9:=iB t.N[a].L;have I0:=cN (bM t.N[a].L)
   have d7:=aB (show ∀ W:World,Below y.heap.size y W->W.cell? ⟨b,off+a*8+1,none⟩=some (.slice D6 t.N[a].L.length n6)/\W.cell? ⟨b,off+a*8+2,none⟩=some (.bool true)/\W.cell? ⟨b,off+a*8+3,none⟩=some (.slice E1 t.N[a].key.length n3)/\W.cell? ⟨w.heap.size,0,none⟩=some (.slice (some ⟨b,off,none⟩) t.N.length f9)/\W.cell? ⟨w.heap.size,1,none⟩=some (.slice ta t.tail.length d9) from
    fun W g=>⟨by rw [g.cell (by simpa using p1)];exact q1,by rw [g.cell (by simpa using p1)];exact q2,by rw [g.cell (by simpa using p1)];exact q3,by rw [g.cell (by simp;omega)];exact Y.out.1,by rw [g.cell (by simp;omega)];exact Y.out.2.1⟩)
   have q7:=aB (show itK (aJ ind d) (j+1) (t.N.drop (i+1))=itK (aJ ind d) j (t.N.drop (i+1))++((if j=0 then [] else [aG [44],aH 2])++iN (aJ ind d) (bF (aJ ind d) j (t.N.drop (i+1)))) from rfl);clear hq q1 q2 q3 l5 p2 w6 n8 k1 v0;generalize t.N[a]=nd at *;generalize (aJ ind d (t.N.drop a)).1=vd at *;generalize t1:bF (aJ ind d) (j+1) (t.N.drop (i+1))=RN at *;have u7:=aB t1;clear t1
   by_cases t5:j=0
   ·subst t5;have C5:=HB;have I2:=aB (show aH 2::itK (aJ ind d) 0 (t.N.drop (i+1))=[aH 2] from rfl);obtain ⟨u1,u2,u3,_,_⟩:=d7.out wr HB.out;have i9:=aB (iH _ _ _ nd.L y.heap.size wr HO.out k2 (eH y9.out HB.out) (by omega) (by omega))
    go_wp2_with fail
    refine i9.out.mono ?_;rintro e p5 ⟨k9,rfl,b6,b5⟩;have E:=aB (HB.out.trans b5);have M:=E.out.size;have J:=aB b6;obtain ⟨s5,u4,b8,_,_⟩:=b6.sl;have F6:(aH 2::itK (aJ ind d) 0 (t.N.drop (i+1))++bM nd.L).length<=5000000:=(by rw [List.length_append];have:=z9;omega);generalize S:(aH 2::itK (aJ ind d) 0 (t.N.drop (i+1))++bM nd.L).length=L5 at *;subst b8;obtain ⟨b2,O,Z,b0,b3⟩:=d7.out p5 E.out;clear b6 b5 i9 HO;have HK:=aB (aBc _ _ p5 (rC y2.out E.out (Nat.le_refl _)) (by omega))
    go_wp2_with fail
    refine HK.out.mono ?_;rintro e p6 ⟨v6,rfl,o6,g6⟩;obtain ⟨v7,p7,i4,o7,g7⟩:=aEP p5.heap.size p6 v6 _ [58,32] o6 (by intro z hz;simp at hz;omega) (by simp) g6.size (by simp;omega);rw [show strOfNums [58,32] = { data:=#[58,32] } by rfl] at i4;have G7:=aB (bA g6 g7 (fun x e=>(o6.lt x e).1));have i5:=aB (jG v7 _ p7 o7.rd (by simp;omega));obtain ⟨a6,c6,b9,_,_⟩:=o6.sl;obtain ⟨a7,c7,d6,_,_⟩:=o7.sl;have j8:(fS nd.key++([58,32]:List Int)).length=(fS nd.key).length+2:=(by simp);rw [j8] at d6;generalize B3:(fS nd.key).length=KL at *;subst b9 d6;clear o6 o7 g6 g7 HK j8 b2 O Z b0 b3
    go_wp2_with fail
    refine i5.out.mono ?_;rintro e p8 ⟨v8,rfl,o8,g8⟩;obtain ⟨v9,p9,r6,o9,g9,_,⟨a9,c9,d8⟩,_⟩:=J.out.push (aA G7.out g8) (o8.base G7.out.size) M (by omega);obtain ⟨a8,c8,d5,_,_⟩:=o8.sl;simp only [aG,List.length_singleton] at d5;have j2:Below y.heap.size p5 p9:=(Below.refl _ _).grown g9 M (fun x e=>(J.out.lt x e).1);have d1:=aB (E.out.trans j2);have f4:=d1.out.size;have h4:=aB o9;rw [S] at d8;subst d5 d8;clear o8 o9 g8 g9 j2 G7 i5 J;obtain ⟨b2,O,Z,b0,b3⟩:=d7.out p9 d1.out;have j7:=aB (l8.out p9 d1.out)
    go_wp2_with fail
    refine j7.out.mono ?_;rintro e B0 ⟨H1,rfl,h2,c0⟩;obtain ⟨p0,h6,n4,d2,f5,_,⟨k8,l3,D⟩,_⟩:=h4.out.push c0 h2 f4 (by rw [List.length_append,S];simp;omega);obtain ⟨E8,E5,f7,_,_⟩:=h2.sl;have f6:Below y.heap.size p9 h6:=(Below.refl _ _).grown f5 f4 (fun x e=>(h4.out.lt x e).1);have A:=aB (d1.out.trans f6);have h8:=A.out.size;have f3:=aB d2;rw [List.length_append,S,List.length_singleton] at D;generalize vd.length=VL at f7;subst f7 D;clear h2 d2 c0 f5 f6 j7 h4 b2 O Z b0 b3;obtain ⟨b2,O,Z,b0,b3⟩:=d7.out h6 A.out;have j0:=aB (m7.out h6 A.out)
    go_wp2_with fail
    refine j0.out.mono ?_;rintro e m9 ⟨rfl,b7⟩;have j9:=aB (A.out.grown b7 h8 (fun x e=>by cases e))
    have f8:Hid (DoR y.heap.size m9 (.slice k8 (L5+1+1) l3) (aH 2::itK (aJ ind d) (0+1) (t.N.drop (i+1)))):=by
     unfold Hid;rw [q7.out,m1.out,A0.out];have j3:=f3.out.K b7;simpa [itK] using j3
    clear f3 j0 b7 b2 O Z b0 b3;go_wp2
    go_roundw
    case rel=>exact ⟨0+1,by omega,by go_num,by rw [u7.out],f8.out,j9.out⟩
    case measure=>simp [intOf];omega
   ·have O3:(0:Int)<j:=by omega
    go_wp2_with fail
    refine (s8.out _).mono ?_;rintro e w1 ⟨v1,rfl,o1,g1⟩;obtain ⟨v2,w2,M0,o2,g2,_,⟨a2,c2,j5⟩,_⟩:=HO.out.push g1 o1 k2 (by omega);obtain ⟨a1,c1,j4,_,_⟩:=o1.sl;have t2:Below y.heap.size wr w2:=(Below.refl _ _).grown g2 k2 (fun x e=>(HO.out.lt x e).1);have u5:=aB (HB.out.trans t2);have m0:=u5.out.size;have p4:=aB o2;simp only [aG,List.length_singleton] at j4;rw [d3] at j5;subst j4 j5;clear o1 o2 g1 g2 t2 x0 x1 x6 x7
    go_wp2_with fail
    refine (E9.out _).mono ?_;rintro e w3 ⟨v3,rfl,o3,g3⟩;obtain ⟨v4,h1,x4,o4,g4,_,⟨a4,c4,g0⟩,_⟩:=p4.out.push g3 o3 m0 (by rw [List.length_append,d3];simp;omega);obtain ⟨a3,c3,i8,_,_⟩:=o3.sl;have i0:Below y.heap.size w2 h1:=(Below.refl _ _).grown g4 m0 (fun x e=>(p4.out.lt x e).1);have d4:=aB (u5.out.trans i0);have k0:=d4.out.size;have r1:=aB o4;simp only [aH,List.length_singleton] at i8;rw [List.length_append,d3,List.length_singleton] at g0;subst i8 g0;clear o3 o4 g3 g4 i0 HO p4;obtain ⟨u1,u2,u3,x0,x1⟩:=d7.out h1 d4.out;have F9:(aH 2::itK (aJ ind d) j (t.N.drop (i+1))++[aG [44]]++[aH 2]).length<=2000003:=(by rw [List.length_append,List.length_append,d3];simp;omega);have i9:=aB (iH _ _ _ nd.L y.heap.size h1 r1.out k0 (eH y9.out d4.out) (by omega) (by rw [List.length_append,List.length_append,d3];simp;omega))
    go_wp2_with fail
    refine i9.out.mono ?_;rintro e p5 ⟨k9,rfl,b6,b5⟩;have E:=aB (d4.out.trans b5);have M:=E.out.size;have J:=aB b6;obtain ⟨s5,u4,b8,_,_⟩:=b6.sl;have F6:(aH 2::itK (aJ ind d) j (t.N.drop (i+1))++[aG [44]]++[aH 2]++bM nd.L).length<=5000000:=(by rw [List.length_append];have:=F9;omega);generalize S:(aH 2::itK (aJ ind d) j (t.N.drop (i+1))++[aG [44]]++[aH 2]++bM nd.L).length=L5 at *;subst b8;obtain ⟨b2,O,Z,b0,b3⟩:=d7.out p5 E.out;clear b6 b5 i9 r1;have HK:=aB (aBc _ _ p5 (rC y2.out E.out (Nat.le_refl _)) (by omega))
    go_wp2_with fail
    refine HK.out.mono ?_;rintro e p6 ⟨v6,rfl,o6,g6⟩;obtain ⟨v7,p7,i4,o7,g7⟩:=aEP p5.heap.size p6 v6 _ [58,32] o6 (by intro z hz;simp at hz;omega) (by simp) g6.size (by simp;omega);rw [show strOfNums [58,32] = { data:=#[58,32] } by rfl] at i4;have G7:=aB (bA g6 g7 (fun x e=>(o6.lt x e).1));have i5:=aB (jG v7 _ p7 o7.rd (by simp;omega));obtain ⟨a6,c6,b9,_,_⟩:=o6.sl;obtain ⟨a7,c7,d6,_,_⟩:=o7.sl;have j8:(fS nd.key++([58,32]:List Int)).length=(fS nd.key).length+2:=(by simp);rw [j8] at d6;generalize B3:(fS nd.key).length=KL at *;subst b9 d6;clear o6 o7 g6 g7 HK j8 b2 O Z b0 b3
    go_wp2_with fail
    refine i5.out.mono ?_;rintro e p8 ⟨v8,rfl,o8,g8⟩;obtain ⟨v9,p9,r6,o9,g9,_,⟨a9,c9,d8⟩,_⟩:=J.out.push (aA G7.out g8) (o8.base G7.out.size) M (by omega);obtain ⟨a8,c8,d5,_,_⟩:=o8.sl;simp only [aG,List.length_singleton] at d5;have j2:Below y.heap.size p5 p9:=(Below.refl _ _).grown g9 M (fun x e=>(J.out.lt x e).1);have d1:=aB (E.out.trans j2);have f4:=d1.out.size;have h4:=aB o9;rw [S] at d8;subst d5 d8;clear o8 o9 g8 g9 j2 G7 i5 J;obtain ⟨b2,O,Z,b0,b3⟩:=d7.out p9 d1.out;have j7:=aB (l8.out p9 d1.out)
    go_wp2_with fail
    refine j7.out.mono ?_;rintro e B0 ⟨H1,rfl,h2,c0⟩;obtain ⟨p0,h6,n4,d2,f5,_,⟨k8,l3,D⟩,_⟩:=h4.out.push c0 h2 f4 (by rw [List.length_append,S];simp;omega);obtain ⟨E8,E5,f7,_,_⟩:=h2.sl;have f6:Below y.heap.size p9 h6:=(Below.refl _ _).grown f5 f4 (fun x e=>(h4.out.lt x e).1);have A:=aB (d1.out.trans f6);have h8:=A.out.size;have f3:=aB d2;rw [List.length_append,S,List.length_singleton] at D;generalize vd.length=VL at f7;subst f7 D;clear h2 d2 c0 f5 f6 j7 h4 b2 O Z b0 b3;obtain ⟨b2,O,Z,b0,b3⟩:=d7.out h6 A.out;have j0:=aB (m7.out h6 A.out)
    go_wp2_with fail
    refine j0.out.mono ?_;rintro e m9 ⟨rfl,b7⟩;have j9:=aB (A.out.grown b7 h8 (fun x e=>by cases e))
    have f8:Hid (DoR y.heap.size m9 (.slice k8 (L5+1+1) l3) (aH 2::itK (aJ ind d) (j+1) (t.N.drop (i+1)))):=by
     unfold Hid;rw [q7.out,m1.out,A0.out];have j3:=f3.out.K b7;simpa [t5] using j3
    clear f3 j0 b7 b2 O Z b0 b3;go_wp2
    go_roundw
    case rel=>exact ⟨j+1,by omega,by go_num,by rw [u7.out],f8.out,j9.out⟩
    case measure=>simp [intOf];omega
  ·have D5:j=c:=(by omega);subst D5;clear p2 t4 o0;have C5:=aB HB.out
   go_wp2_with fail
   refine (s8.out _).mono ?_;rintro e w1 ⟨v1,rfl,o1,g1⟩;have s6:=aB o1;have G1:=aB g1;obtain ⟨a1,c1,j4,_,_⟩:=o1.sl;simp only [aG,List.length_singleton] at j4;subst j4;clear o1 g1 x0 x1 x6
   go_wp2_with fail
   refine (H3.out _).mono ?_;rintro e w2 ⟨v2,rfl,o2,g2⟩;have s3:=aB (aBC 9 _ v2 _ _ wr.heap.size w2 (s6.out.K g2).pi (o2.base G1.out.size).pi (by simp [aG,mes]) (by simp [aH,mes]));have G2:=aB (aA G1.out g2);obtain ⟨a2,c2,j5,_,_⟩:=o2.sl;simp only [aH,List.length_singleton] at j5;subst j5;clear o2 g2 s6 G1
   go_wp2_with fail
   refine s3.out.mono ?_;rintro e w3 ⟨v3,rfl,o3,g3⟩;obtain ⟨v4,h1,x4,o4,g4,_,⟨a4,c4,g0⟩,_⟩:=HO.out.push (aA G2.out g3) (o3.base G2.out.size) k2 (by omega);obtain ⟨a3,c3,i8,_,_⟩:=o3.sl;have i0:Below y.heap.size wr h1:=(Below.refl _ _).grown g4 k2 (fun x e=>(HO.out.lt x e).1);have d4:=aB (HB.out.trans i0);have k0:=d4.out.size;have M9:h1.cell? ⟨w.heap.size+1,7,none⟩=some (.slice qa p.tail.length h9):=(by rw [i0.cell (by simp;omega)];exact x7);have s1:=aB (mX _ _ _ p.tail y.heap.size h1 o4 k0 (eH t7.out d4.out) (by have:=s0.out;omega) (by rw [List.length_append,d3];simp;omega));rw [d3] at g0;simp only [aG,aH,List.length_append,List.length_cons,List.length_nil] at i8;subst i8 g0;clear o3 o4 g3 g4 i0 G2 s3 HO x7
   go_wp2_with fail
   refine s1.out.mono ?_;rintro e p5 ⟨k9,rfl,b6,b5⟩;have E:=aB (d4.out.trans b5);have M:=E.out.size;have m5:=aB (show (aH 2::itK (aJ ind d) j (t.N.drop (i+1)))++[aG [44]++aH 0++[(⟨9,[],0⟩:Pc)]]++cU p.tail=kC 6 (itK (aJ ind d) j (t.N.drop (i+1))) p.tail by simp [kC,yC,aG,aH,oD])
   have B1:cR (kC 6 (itK (aJ ind d) j (t.N.drop (i+1))) p.tail)<=4100000:=by
    have:=s0.out;simp only [kC,cR,eO,aH,yC,mes,List.length_cons,List.length_nil];omega
   have o5:DoR y.heap.size p5 k9 (kC 6 (itK (aJ ind d) j (t.N.drop (i+1))) p.tail):=(by rw [<- m5.out];exact b6);have HR:=aB (fV k9 _ _ p5 o5.di M (by omega));have R7:=jB (kC 6 (itK (aJ ind d) j (t.N.drop (i+1))) p.tail);obtain ⟨s5,u4,b8,_,_⟩:=o5.sl;generalize N1:kC 6 (itK (aJ ind d) j (t.N.drop (i+1))) p.tail=NN at *;generalize NN.length=L5 at b8;subst b8;clear o5 b6 b5 s1 m5
   go_wp2_with fail
   refine HR.out.mono ?_;rintro e p6 ⟨v6,rfl,o6,g6⟩;have HN:=aB (oE 7 ind v6 _ _ p6 o6.pi (by omega));have GA:Hid (w.grownBy p6 none):=aA (aA GG.out (aC E.out)) g6;obtain ⟨a6,c6,b9,_,_⟩:=o6.sl;generalize (cV NN).length=L6 at b9;subst b9;clear o6 g6 HR
   go_wp2_with fail
   refine HN.out.mono ?_;rintro e p7 ⟨v7,rfl,o7,g7⟩;have G6:=aB (aA GA.out g7);have s9:=aB (o7.base (B':=w.heap.size) GA.out.size);obtain ⟨a6,c6,b9,_,_⟩:=o7.sl;generalize (cV NN++[(⟨7,[],ind⟩:Pc)]).length=L6 at b9;subst b9;clear o7 g7 HN
   go_wp2_with fail
   refine (r5.out _).mono ?_;rintro e w7 ⟨v7,rfl,o7,g7⟩;have G7:=aB (aA G6.out g7);have u8:=aB (o7.base (B':=w.heap.size) G6.out.size);have m2:=aB (s9.out.K g7);obtain ⟨a7,c7,d6,_,_⟩:=o7.sl;simp only [aG,List.length_singleton] at d6;subst d6;clear o7 g7 r5 s9
   go_wp2_with fail
   refine (z8.out _).mono ?_;rintro e w8 ⟨v8,rfl,o8,g8⟩;have G8:=aB (aA G7.out g8);have t6:=aB (o8.base (B':=w.heap.size) G7.out.size);have j1:=aB (m2.out.K g8);have m4:=aB (u8.out.K g8);obtain ⟨a8,c8,d5,_,_⟩:=o8.sl;simp only [aH,List.length_singleton] at d5;subst d5;clear o8 g8 m2 u8
   go_wp2_with fail
   refine (x8.out _).mono ?_;rintro e w9 ⟨v9,rfl,o9,g9⟩;have G9:=aB (aA G8.out g9);obtain ⟨a9,c9,d8,_,_⟩:=o9.sl;simp only [aG,List.length_singleton] at d8;have s4:=xZ w.heap.size w9 _ _ _ _ _ _ _ _ G9.out.size (m4.out.K g9).pi (j1.out.K g9).pi (t6.out.K g9).pi (o9.base (B':=w.heap.size) G8.out.size).pi
   have N9:cR [aG [123],cV NN++[(⟨7,[],ind⟩:Pc)],aH 2,aG [125]]<=4190000:=by
    simp only [cR,iI,aG,aH,mes,List.length_cons,List.length_nil];omega
   have c0:=World.grownBy_alloc w9 (Obj.cells #[.slice a7 1 c7,.slice a6 L6 c6,.slice a8 1 c8,v9] 30) none;have HF:=aB (fV _ _ w.heap.size _ s4 (by have:=(aA G9.out c0).size;exact this) (by omega));have B2:=aB (aA G9.out c0);have J4:=jB [aG [123],cV NN++[(⟨7,[],ind⟩:Pc)],aH 2,aG [125]];subst d8;clear o9 g9 x8 j1 m4 t6 s4 c0
   go_wp2_with fail
   refine HF.out.mono ?_;rintro e B5 ⟨p0,rfl,d2,f5⟩;have HU:=aB (oE 8 0 p0 _ _ B5 d2.pi (by omega));have t9:=aB (aA B2.out f5);obtain ⟨k8,l3,D,_,_⟩:=d2.sl;generalize (cV [aG [123],cV NN++[(⟨7,[],ind⟩:Pc)],aH 2,aG [125]]).length=L11 at D;subst D;clear d2 f5 HF
   go_wp2_with fail
   refine HU.out.mono ?_;rintro e R5 ⟨S0,rfl,p3,b7⟩;have f8:=aB (p3.base (B':=w.heap.size) t9.out.size);have E0:=aB (aA t9.out b7);obtain ⟨N6,M8,l7,_,_⟩:=p3.sl;generalize (cV [aG [123],cV NN++[(⟨7,[],ind⟩:Pc)],aH 2,aG [125]]++[(⟨8,[],0⟩:Pc)]).length=L12 at l7;subst l7;clear p3 b7 HU;go_wp2;go_ret;refine ⟨_,rfl,?_,E0.out⟩;rw [y3.out];unfold iQ;exact f8.out
theorem qI (t:Tre) (ind:Int) (D:pM t):∀ (d:Nat),d<=202->∀ (j:Nat) (A:List Nod) (m:Bool) (nv tv:Value) (w:World),j<t.N.length->aE bC d m (t.N.drop j,())=some (A,())->eF w.heap.size w nv tv t->
  Calls prog 41 #[.agg #[nv,tv],.int .i64 j,.int .i64 ind] w fun e w'=>∃ X,e=.returned X/\PoR w.heap.size w' X (aJ ind d (t.N.drop j)).1/\w.grownBy w' none
 | 0,_,j,A,m,nv,tv,w,_,hw,_=>by simp [aE] at hw
 | d+1,hd,j,A,m,nv,tv,w,hj,hw,hv=>by
   have J:t.N.drop j=t.N[j]::t.N.drop (j+1):=List.drop_eq_getElem_cons hj;have G:=D.nd _ (List.getElem_mem hj)
   by_cases O:t.N[j].k<5
   ·rw [J];simp only [aJ,if_pos O];exact aCg t ind D j hj O nv tv w hv
   ·rw [J] at hw ⊢;simp only [aJ,if_neg O];have Y:=G.1.2;have Z:=G.2.2.2.2.2.2.2.2.2.2
    by_cases y:t.N[j].C=0
    ·unfold kB;rw [if_pos y]
     by_cases E:t.N[j].tail=[]
     ·rw [if_pos E];rcases (show t.N[j].k=5\/t.N[j].k=6 by omega) with h | h
      ·rw [h];exact aAV t ind D j hj h y E nv tv w hv
      ·rw [h];exact aAT t ind D j hj h y E nv tv w hv
     ·rw [if_neg E];rcases (show t.N[j].k=5\/t.N[j].k=6 by omega) with h | h
      ·rw [h];exact aAK t ind D j hj h y E nv tv w hv
      ·rw [h];exact aAO t ind D j hj h y E nv tv w hv
    ·have M:aO (aE bC d (decide (t.N[j].k=6))) t.N[j].C.toNat (t.N.drop (j+1),())=some (A,()):=by
      by_cases S:t.N[j].mem≠m
      ·simp [aE,S] at hw
      ·by_cases U:5<=t.N[j].k/\d=0
       ·simp [aE,S,U,bC] at hw
       ·simpa only [aE,if_neg S,if_neg U,bC,Option.bind_some] using hw
     rcases (show t.N[j].k=5\/t.N[j].k=6 by omega) with h | h
     ·rw [h] at M;exact aAW t ind D d (by omega) (fun j A m nv tv w a b c=>qI t ind D d (by omega) j A m nv tv w a b c) j hj h (by omega) A (by simpa using M) nv tv w hv
     ·rw [h] at M;exact aAA t ind D d (by omega) (fun j A m nv tv w a b c=>qI t ind D d (by omega) j A m nv tv w a b c) j hj h (by omega) A (by simpa using M) nv tv w hv
theorem aGm (t:Tre) (ind:Int) (hD:pM t) (l2:wNs t.N+wC t.tail<=3000000) (hw:aE bC 201 false (t.N,())=some ([],())) (nv tv:Value) (w:World) (hv:eF w.heap.size w nv tv t) :
  Calls prog 18 #[.agg #[nv,tv],.int .i64 ind] w fun e w'=>∃ v',e=.returned v'/\PoR w.heap.size w' v' (dT ind t)/\w.grownBy w' none:=by
 have h0:0<t.N.length:=by
  rcases hh:t.N with _ | ⟨n,R⟩
  ·rw [hh] at hw;simp [aE] at hw
  ·simp
 have h6:t.N=t.N[0]::t.N.drop 1:=by
  have:=List.drop_eq_getElem_cons h0;simpa using this
 have f8:=aB (show dT ind t=cV (bM t.N[0].L++((aJ ind 201 t.N).1::aH 4::bM t.tail)) by
  unfold dT
  split
  ·rename_i h;rw [h] at h0;simp at h0
  ·rename_i n R h
   simp only [h,List.getElem_cons_zero])
 have l4:mes (aJ ind 201 t.N).1+wC t.N[0].L<=wNs t.N:=by
  obtain ⟨n,P,hP,hm⟩:=rL ind 201 false t.N [] hw (fun p hp h5=>((hD.nd p hp).2.2.2.2.2.2.2.2.2.1 h5).1);have hn:t.N[0]=n:=(by simp only [hP,List.getElem_cons_zero]);have hs:wNs t.N=wN n+wNs P:=(by rw [hP];simp [wNs]);rw [hn,hs];omega
 obtain ⟨M,J⟩:=id hv;obtain ⟨na,d5,h3,_⟩:=id M;obtain ⟨ta,S,h9,_⟩:=id J;obtain ⟨b,off,k1,lv,kv,xv,uv,qv,h4,l3,hp⟩:=M.at 0 h0;obtain ⟨A,y⟩:∃ A,A=w.alloc (Obj.cells #[nv,tv] 26):=⟨_,rfl⟩;have D:w.grownBy A none:=(by rw [y];exact gWA);have GG:=aB D;have z1:=D.cell hp.L (by simp);have y0:A.cell? ⟨w.heap.size,0,none⟩=some nv:=(by rw [y];simp [go_sem]);have y1:A.cell? ⟨w.heap.size,1,none⟩=some tv:=(by rw [y];simp [go_sem]);have sW:A.heap.size=w.heap.size+1:=(by rw [y];simp);have Z:=aB (iH (.slice none 0 0) lv [] t.N[0].L A.heap.size A (DoR.nil _ _) (Nat.le_refl _) ((hp.rl.K D).wide D.size) (by omega) (by simp));have h2:=aB ((J.K D).wide D.size);have f4:Hid (∀ W:World,Below A.heap.size A W->eF W.heap.size W nv tv t):=fun W g=>wK (M.K D) (J.K D) D.size g;have O:Hid (∀ W:World,Below A.heap.size A W->_):=fun W (g:Below A.heap.size A W)=>qI t ind hD 201 (by omega) 0 [] false nv tv W h0 (by simpa using hw) (f4.out W g);have f9:Hid (∀ W:World,_):=fun W=>dJ 4 W;obtain ⟨la,j7,g0,_,_⟩:=hp.rl.sl;have l0:=iB t.N[0].L;have i2:=cN (bM t.N[0].L);have l5:=iB t.tail;subst g0 h4 h9;cases h3;simp only [Nat.zero_mul,Nat.add_zero] at z1;clear M J hv hp hw;have h7:=aB y;rw [y] at Z;have b4:=z1;rw [y] at b4;clear y;have Y:=aB (show _/\_ from ⟨y0,y1⟩);clear y0 y1 z1 D h6;rw [List.drop_zero] at O;generalize (aJ ind 201 t.N).1=vd at *;generalize t.N[0].L=ld at *
 go_enter func18,ntmps18
 go_wp2_with fail
 refine Z.out.mono ?_;rintro e w2 ⟨v2,rfl,o2,b2⟩;have y:=h7.out;rw [<- y] at o2 b2;clear y;rw [List.nil_append] at o2;have g7:=aB b2;have d1:=b2.size;have X:=aB o2;have d7:=aB (O.out w2 b2);obtain ⟨a2,c2,g1,_,_⟩:=o2.sl;have x0:w2.cell? ⟨w.heap.size,0,none⟩=some (.slice (some ⟨b,off,none⟩) t.N.length d5):=(by rw [b2.cell (by simp;omega)];exact Y.out.1);have x1:w2.cell? ⟨w.heap.size,1,none⟩=some (.slice ta t.tail.length S):=(by rw [b2.cell (by simp;omega)];exact Y.out.2);generalize G:(bM ld).length=L2 at *;subst g1;clear o2 b2 Z b4
 go_wp2_with fail
 refine d7.out.mono ?_;rintro e w3 ⟨v3,rfl,o3,g3⟩;obtain ⟨v4,w4,i6,o4,g4,_,⟨a4,c4,d8⟩,_⟩:=X.out.push g3 o3 d1 (by omega);obtain ⟨a3,c3,b5,_,_⟩:=o3.sl;have d0:Below A.heap.size w2 w4:=(Below.refl _ _).grown g4 d1 (fun x e=>(X.out.lt x e).1);have d4:=aB (g7.out.trans d0);have c1:=d4.out.size;have U:=aB o4;rw [G] at d8;generalize vd.length=L3 at b5;subst b5 d8;clear o3 o4 g3 g4 d0 d7 X x0 x1
 go_wp2_with fail
 refine (f9.out _).mono ?_;rintro e w5 ⟨v5,rfl,o5,g5⟩;obtain ⟨v6,w6,j4,o6,g6,_,⟨a6,c6,b8⟩,_⟩:=U.out.push g5 o5 c1 (by rw [List.length_append,G];simp;omega);obtain ⟨a5,c5,d2,_,_⟩:=o5.sl;have c0:Below A.heap.size w4 w6:=(Below.refl _ _).grown g6 c1 (fun x e=>(U.out.lt x e).1);have E:=aB (d4.out.trans c0);have h1:=E.out.size;have d6:=aB (iH v6 _ _ t.tail A.heap.size w6 o6 h1 (eH h2.out E.out) (by omega) (by rw [List.length_append,List.length_append,G];simp;omega));simp only [aH,List.length_singleton] at d2;rw [List.length_append,G,List.length_singleton] at b8;have x1:w6.cell? ⟨w.heap.size,1,none⟩=some (.slice ta t.tail.length S):=(by rw [E.out.cell (by simp;omega)];exact Y.out.2);subst d2 b8;clear o5 o6 g5 g6 c0 U
 go_wp2_with fail
 refine d6.out.mono ?_;rintro e w7 ⟨v7,rfl,o7,b7⟩;have b3:=aB (E.out.trans b7);have HE:=aB (show bM ld++[vd]++[aH 4]++bM t.tail=bM ld++(vd::aH 4::bM t.tail) by simp);have b0:DoR A.heap.size w7 v7 (bM ld++(vd::aH 4::bM t.tail)):=(by rw [<- HE.out];exact o7);have HR:=aB (fV v7 _ _ w7 b0.di b3.out.size (by rw [eO];simp only [cR,aH,mes,List.length_nil];omega));obtain ⟨a7,c7,d3,_,_⟩:=b0.sl;generalize (bM ld++(vd::aH 4::bM t.tail)).length=L7 at d3;subst d3;clear o7 b0 b7 d6 HE
 go_wp2_with fail
 refine HR.out.mono ?_;rintro e w8 ⟨v8,rfl,o8,g8⟩;have f6:=aB (o8.base (B':=w.heap.size) GG.out.size);have g2:=aB (aA (aA GG.out (aC b3.out)) g8);obtain ⟨a8,c8,c9,_,_⟩:=o8.sl;generalize (cV (bM ld++(vd::aH 4::bM t.tail))).length=L8 at c9;subst c9;clear o8 g8 HR;go_wp2;go_ret;refine ⟨_,rfl,?_,g2.out⟩;rw [f8.out];exact f6.out
end Go.Proofs.YtmfehflibkokbaaGreatDoor
namespace Go.Proofs.YtmfehflibkokbaaGreatDoor
open Go.Proofs.Tryz
open Go.RowKit
def dU (ps:List Pc):Bool:=decide (40000<ps.length)||decide (100000<cM ps)
def bdR (vv:Bool) (ind:Int) (t:Tre):List Pc × Int:=if vv=true/\0<=ind/\ind<=16 then (if dU (dT ind t)=true then ([],4) else (dT ind t,0)) else ([],1)
theorem rU (ps:List Pc) (p:Pc):cM (ps++[p])=cM ps+p.t.length:=by
 induction ps with
 | nil=>simp [cM]
 | cons q ps ih=>simp only [List.cons_append,cM,ih];omega
theorem iC:∀ ps,0<=cM ps
 | []=>Int.le_refl _
 | p::ps=>by have:=iC ps;simp only [cM];omega
theorem aDY (v:Value) (ps:List Pc) (B:Nat) (w:World) (hv:PiR B w none v ps) (hn:mes ps<=4194304) :
  Calls prog 19 #[v] w fun e w'=>e=.returned (.bool (dU ps))/\w=w':=by
 have HV:=aB hv;obtain ⟨a,cap,J,_⟩:=id hv;subst J;have hl:=oW ps;have a5:=xN ps;clear hv
 go_enter func19,ntmps19
 go_wp2
 go_loopw [3,4] (fun o i W=>∃ (k:Nat),k<=ps.length/\i=.int .i64 k/\o=.int .i64 (cM (ps.take k))/\w=W)
  (fun _ i _=>ps.length - (intOf i).toNat)
 case atStart=>exact ⟨0,Nat.zero_le _,rfl,rfl,rfl⟩
 case round=>
  obtain ⟨k,hk,rfl,rfl,rfl⟩:=hrel
  by_cases h:k<ps.length
  ·obtain ⟨b,off,S,G,hz,tv,c0,c1,c2,U⟩:=HV.out.at k h;cases G;have hm:=aFo ps ps[k] (List.getElem_mem h)
   have Y:=aB (show cM (ps.take (k+1))=cM (ps.take k)+ps[k].t.length by
    rw [show ps.take (k+1)=ps.take k++[ps[k]] by rw [List.take_add_one];simp [h],rU])
   have Z:cM (ps.take k)<=4194304:=by
    have D:=xN (ps.take k);have h2:=iI (ps.take k) (ps.drop k);rw [List.take_append_drop] at h2;omega
   have E:=iC (ps.take k);obtain ⟨ta,O,M,_,_⟩:=U.sl;subst M;clear U HV;generalize ps[k]=p at *;generalize cM (ps.take k)=sm at *;go_wp2
   go_roundw
   case rel=>exact ⟨k+1,by omega,by go_num,by rw [Y.out],trivial⟩
   case measure=>simp [intOf];omega
  ·have N:k=ps.length:=(by omega);subst N;rw [List.take_length];have E:=iC ps;clear HV
   by_cases D:40000<ps.length
   ·have hd:decide (40000<ps.length)=true:=(by simp [D]);have A:(40000:Int)<ps.length:=(by omega);go_wp2;go_ret;exact ⟨by simp [dU,D],rfl⟩
   ·have A:¬ (40000:Int)<ps.length:=(by omega);have X:decide ((40000:Int)<ps.length)=false:=(by simpa using A);generalize y:cM ps=sm at *;go_wp2;go_ret;exact ⟨by simp [dU,D,y],rfl⟩
theorem aG1 (t:Tre) (ind:Int) (G:pM t) (E:aE bC 201 false (t.N,())=some ([],())):mes (dT ind t)<=wNs t.N+wC t.tail+10:=by
 obtain ⟨n,P,h,S⟩:=rL ind 201 false t.N [] E (fun p D A=>((G.nd p D).2.2.2.2.2.2.2.2.2.1 A).1);have J:wNs t.N=wN n+wNs P:=(by rw [h];simp [wNs]);have M:=iB n.L;have O:=iB t.tail
 have y:dT ind t=cV (bM n.L++((aJ ind 201 t.N).1::aH 4::bM t.tail)):=by
  unfold dT;rw [h]
 rw [y];refine Nat.le_trans (jB _) ?_;rw [eO];simp only [cR,aH,mes,List.length_nil];omega
theorem aAG (t:Tre) (ind:Int) (vv:Bool) (a5:vv=true->pM t/\wNs t.N+wC t.tail<=3000000/\aE bC 201 false (t.N,())=some ([],())) (nv tv:Value) (w:World) (hv:eF w.heap.size w nv tv t)
  (y:∀ W:World,eF W.heap.size W nv tv t->Calls prog 16 #[.agg #[nv,tv]] W fun e b9=>e=.returned (.bool vv)/\W.grownBy b9 none) :
  Calls prog 6 #[.agg #[nv,tv],.int .i64 ind] w fun e w'=>∃ v',e=.returned (.tuple #[v',.int .i64 (bdR vv ind t).2])/\PiR w.heap.size w' none v' (bdR vv ind t).1/\w.grownBy w' none:=by
 have c1:∀ (x:Bool) (w:World),(Op.unary .not (.bool x)).run prog w=.ok (.bool (!x)) w:=fun _ _=>rfl;obtain ⟨Y,S⟩:=id hv;have U:Hid (∀ W:World,w.grownBy W none->eF W.heap.size W nv tv t):=fun W g=>⟨(Y.K g).wide g.size,(S.K g).wide g.size⟩;have HV:Hid (∀ W:World,w.grownBy W none->_):=fun W (g:w.grownBy W none)=>y W (U.out W g);have H1:=aB a5;have O:∀ W:World,PiR w.heap.size W none (.slice none 0 0) []:=fun W=>⟨none,0,rfl,Nat.le_refl _,by unfold maxLen;omega,fun h=>absurd rfl h⟩;have A:=aB O;obtain ⟨na,M,b2,_⟩:=id Y;obtain ⟨ta,J,b8,_⟩:=id S;subst b2 b8;clear Y S hv y a5 O
 go_enter func6,ntmps6
 go_wp2_with fail
 refine (HV.out _ gWA).mono ?_;rintro e w1 ⟨rfl,g1⟩;have Z:=aB (aA (World.grownBy_alloc w (Obj.cells #[.slice na t.N.length M,.slice ta t.tail.length J] 26) none) g1);have q0:=g1.cell (a:=⟨w.heap.size,0,none⟩) (v:=.slice na t.N.length M) (by simp [go_sem]) (by simp);have q1:=g1.cell (a:=⟨w.heap.size,1,none⟩) (v:=.slice ta t.tail.length J) (by simp [go_sem]) (by simp);clear g1 HV;cases vv with
 | false=>
   have D:=aB (show bdR false ind t=([],1) by simp [bdR]);go_wp2;go_ret2;exact ⟨.slice none 0 0,by rw [D.out];rfl,by rw [D.out];exact A.out _,Z.out⟩
 | true=>
   by_cases h0:ind<0
   ·have D:=aB (show bdR true ind t=([],1) by unfold bdR;rw [if_neg (by omega)]);go_wp2;go_ret2;exact ⟨.slice none 0 0,by rw [D.out];rfl,by rw [D.out];exact A.out _,Z.out⟩
   ·have d1:decide (ind<0)=false:=by simpa using h0
    by_cases b4:16<ind
    ·have D:=aB (show bdR true ind t=([],1) by unfold bdR;rw [if_neg (by omega)]);go_wp2;go_ret2;exact ⟨.slice none 0 0,by rw [D.out];rfl,by rw [D.out];exact A.out _,Z.out⟩
    ·have c0:decide (16<ind)=false:=(by simpa using b4);obtain ⟨hD,a9,X⟩:=H1.out rfl;have a6:=aB (aGm t ind hD a9 X _ _ w1 (U.out w1 Z.out))
     have b3:Hid (mes (dT ind t)<=4194304):=by
      have h:=aG1 t ind hD X;unfold Hid;omega
     clear U H1 hD a9 X
     go_wp2_with fail
     refine a6.out.mono ?_;rintro e w2 ⟨v2,rfl,o2,g2⟩;have a8:=aB (aDY v2 _ _ w2 o2.pi b3.out);have b5:=aB (o2.base (B':=w.heap.size) Z.out.size);have G2:=aB (aA Z.out g2);have D:=aB (show bdR true ind t=if dU (dT ind t)=true then ([],4) else (dT ind t,0) by unfold bdR;rw [if_pos (by simp;omega)]);obtain ⟨a2,c2,a7,_,_⟩:=o2.sl;generalize b6:(dT ind t).length=L2 at a7;subst a7;clear o2 g2 a6 b6
     go_wp2_with fail
     refine a8.out.mono ?_;rintro e w3 ⟨rfl,rfl⟩;clear a8;cases G:dU (dT ind t) with
     | true=>
       have E:=aB (show bdR true ind t=([],4) by rw [D.out,G];rfl);clear G D;go_wp2;go_ret2;exact ⟨.slice none 0 0,by rw [E.out];rfl,by rw [E.out];exact A.out _,G2.out⟩
     | false=>
       have E:=aB (show bdR true ind t=(dT ind t,0) by rw [D.out,G];rfl);clear G D;go_wp2;go_ret2;exact ⟨.slice a2 L2 c2,by rw [E.out];rfl,by rw [E.out];exact b5.out.pi,G2.out⟩
end Go.Proofs.YtmfehflibkokbaaGreatDoor
namespace Go.Proofs.YtmfehflibkokbaaGreatDoor
open Go.Proofs.Tryz
def trs (its:List pK):List Tr:=its.map (·.T)
theorem aDP (ind:Int) (h:ind<=4000):(bR ind).length<=4001:=by
 unfold bR;simp;omega
theorem nQ (width:Int) (A:Option (List Int)):∀ (f D:Nat) (its:List pK) (out met:List Int) (col:Int),szs (trs its)<f->szs (trs its)<D->lay width A f its out met col=lay width A D its out met col
 | 0,_,_,_,_,_,h,_=>by omega
 | _+1,0,_,_,_,_,_,h=>by omega
 | f+1,D+1,[],out,met,col,_,_=>by simp only [lay]
 | f+1,D+1,⟨.leaf p,n,ind⟩::rest,out,met,col,h1,h2=>by
   simp only [trs,List.map_cons,szs,sz] at h1 h2;have G:∀ o m c,lay width A f rest o m c=lay width A D rest o m c:=fun o m c=>nQ width A f D rest o m c (by unfold trs;omega) (by unfold trs;omega);simp only [lay,G]
 | f+1,D+1,⟨.bin p x y,n,ind⟩::rest,out,met,col,h1,h2=>by
   simp only [trs,List.map_cons,szs,sz] at h1 h2
   have G:∀ o m c,lay width A f (⟨x,n,ind⟩::⟨y,n+bV x,ind⟩::rest) o m c=lay width A D (⟨x,n,ind⟩::⟨y,n+bV x,ind⟩::rest) o m c:=
    fun o m c=>nQ width A f D _ o m c (by simp only [trs,List.map_cons,szs];omega) (by simp only [trs,List.map_cons,szs];omega)
   have E:∀ o m c,lay width A f (⟨x,n,ind⟩::rest) o m c=lay width A D (⟨x,n,ind⟩::rest) o m c:=
    fun o m c=>nQ width A f D _ o m c (by simp only [trs,List.map_cons,szs];omega) (by simp only [trs,List.map_cons,szs];omega)
   simp only [lay,G,E]
 | f+1,D+1,⟨.un p x,n,ind⟩::rest,out,met,col,h1,h2=>by
   simp only [trs,List.map_cons,szs,sz] at h1 h2;have G:∀ o m c,lay width A f rest o m c=lay width A D rest o m c:=fun o m c=>nQ width A f D rest o m c (by unfold trs;omega) (by unfold trs;omega)
   have E:∀ i o m c,lay width A f (⟨x,n,i⟩::rest) o m c=lay width A D (⟨x,n,i⟩::rest) o m c:=
    fun i o m c=>nQ width A f D _ o m c (by simp only [trs,List.map_cons,szs];omega) (by simp only [trs,List.map_cons,szs];omega)
   simp only [lay,G,E]
end Go.Proofs.YtmfehflibkokbaaGreatDoor
namespace Go.Proofs.YtmfehflibkokbaaGreatDoor
open Go.Proofs.Tryz
open Go.RowKit
end Go.Proofs.YtmfehflibkokbaaGreatDoor
