import Derived.Test.YtgifkcpdihphlaaGreatDoorMAX
set_option maxHeartbeats 16000000
set_option maxRecDepth 100000
namespace Go.Proofs.YtgifkcpdihphlaaGreatDoor
open Tryz
open Go.RowKit
attribute [-go_sem] Builtin.append_
theorem aBu (t:Tre) (ind:Int) (hD:iL t) (d:Nat) (hd:d<=202) (IH:∀ (j:Nat) (R2:List Nod) (m:Bool) (nv tv:Value) (w:World),j<t.N.length->aD aZ d m (t.N.drop j,())=some (R2,())->dG w.heap.size w nv tv t->
   Calls prog 36 #[.agg #[nv,tv],.int .i64 j,.int .i64 ind] w fun e w'=>∃ v',e=.returned v'/\PoR w.heap.size w' v' (aF ind d (t.N.drop j)).1/\w.grownBy w' none)
  (i:Nat) (hi:i<t.N.length) (hk:t.N[i].k=6) (D5:0<t.N[i].C) (R2:List Nod) (hw:aN (aD aZ d true) t.N[i].C.toNat (t.N.drop (i+1),())=some (R2,())) (nv tv:Value) (w:World) (hv:dG w.heap.size w nv tv t) :
  Calls prog 36 #[.agg #[nv,tv],.int .i64 i,.int .i64 ind] w fun e w'=>∃ v',e=.returned v'/\PoR w.heap.size w' v' (iZ ind t.N[i] (itK (aF ind d) t.N[i].C.toNat (t.N.drop (i+1))))/\w.grownBy w' none:=by
 have p2:=aB (oE t ind d true (i+1) t.N[i].C.toNat R2 hw (fun p hp h5=>((hD.nd p hp).2.2.2.2.2.2.2.2.2.1 h5).1));have y9:Hid (∀ a,a<t.N.length->∀ R3,aD aZ d true (t.N.drop a,())=some (R3,())->∀ h:a<t.N.length,t.N[a].mem=true):=fun a ha R3 h3 h=>oN t d true a R3 h3 h;have HV:=aB hv;have G3:=aB IH;have E4:=hD.len;clear hw IH;obtain ⟨n8,x2⟩:=id hv;have HD:=aB hD;obtain ⟨na,d9,C2,_⟩:=id n8;obtain ⟨ta,f8,C0,_⟩:=id x2;obtain ⟨b,off,H6,lv,kv,xv,uv,qv,n5,O9,hp⟩:=n8.at i hi;have r4:=Nat.le_trans (lC _ _ (List.getElem_mem hi)) hD.wt;have D9:=hD.cn _ (List.getElem_mem hi);have l9:wC t.N[i].tail<=2000000:=(by have:=r4;unfold wN at this;omega);have z0:=hp.k;have z1:=hp.L;have z2:=hp.mem;have z3:=hp.key;have z4:=hp.X;have z5:=hp.U;have z6:=hp.C;have z7:=hp.tail;have y5:=aB hp.rt;obtain ⟨la,t0,m8,_,_⟩:=hp.rl.sl;obtain ⟨qa,h7,E8,_,_⟩:=hp.rt.sl;obtain ⟨ka,u4,o0,_,_⟩:=hp.sk;obtain ⟨xa,s1,A9,_,_⟩:=hp.sx;obtain ⟨ua,y3,A8,_,_⟩:=hp.su;subst m8 E8 o0 A9 A8 n5 C0;cases C2;clear n8 x2 hv hp;generalize t.N[i]=p at *;obtain ⟨wA,j3⟩:∃ wA,wA=w.alloc (Obj.cells #[.slice (some ⟨b,off,none⟩) t.N.length d9,.slice ta t.tail.length f8] 33):=⟨_,rfl⟩;have gA:w.grownBy wA none:=(by rw [j3];exact gWA);have t4:=gA.cell z0 (by simp);have D8:=gA.cell z1 (by simp);have C8:=gA.cell z2 (by simp);have C4:=gA.cell z3 (by simp);have F4:=gA.cell z4 (by simp);have F2:=gA.cell z5 (by simp);have z9:=gA.cell z6 (by simp);have B0:=gA.cell z7 (by simp);have sA:wA.heap.size=w.heap.size+1:=(by rw [j3];simp);clear z0 z1 z2 z3 z4 z5 z6 z7;rw [hk] at t4;obtain ⟨c,hc⟩:∃ c:Nat,p.C=(c:Int):=⟨p.C.toNat,by omega⟩;have x4:p.C.toNat=c:=(by omega);rw [x4] at p2 ⊢;rw [hc] at z9 D9 D5;have R5:0<c:=(by omega);have P8:((c:Int)==0)=false:=(by simp;omega);have q5:=aB (show iZ ind p (itK (aF ind d) c (t.N.drop (i+1)))=cT [aG [123],fM ind (iU 6 (itK (aF ind d) c (t.N.drop (i+1))) p.tail),aI 2,aG [125]]++[⟨8,[],0⟩] by unfold iZ;rw [if_neg (by omega),hk];rfl);obtain ⟨u,E⟩:∃ u,u=(wA.alloc (Obj.cells #[.int .i64 6,.slice la p.L.length t0,.bool p.mem,.slice ka p.key.length u4,.slice xa p.X.length s1,.slice ua p.U.length y3,.int .i64 c,.slice qa p.tail.length h7] 49)).alloc (Obj.cells #[.string { data:=#[110,117,108,108] },.string { data:=#[116,114,117,101] },.string { data:=#[102,97,108,115,101] }] 9):=⟨_,rfl⟩;have gg:w.grownBy u none:=(by rw [E];exact aA gA (aA gWA gWA));have R9:u.heap.size=w.heap.size+3:=(by rw [E];simp [sA]);have GG:=aB gg;have y0:u.cell? ⟨w.heap.size,0,none⟩=some (.slice (some ⟨b,off,none⟩) t.N.length d9):=(by rw [E,j3];simp [go_sem]);have y1:u.cell? ⟨w.heap.size,1,none⟩=some (.slice ta t.tail.length f8):=(by rw [E,j3];simp [go_sem]);have y6:u.cell? ⟨w.heap.size+1,6,none⟩=some (.int .i64 c):=(by rw [E,<- sA];simp [go_sem]);have y7:u.cell? ⟨w.heap.size+1,7,none⟩=some (.slice qa p.tail.length h7):=(by rw [E,<- sA];simp [go_sem]);have Y:=aB (show _/\_/\_/\_ from ⟨y0,y1,y6,y7⟩);have s3:Hid (∀ W:World,_):=fun W=>cQ [123] (by intro z hz;simp at hz;omega) (by simp) W;have r7:Hid (∀ W:World,_):=fun W=>cQ [125] (by intro z hz;simp at hz;omega) (by simp) W;have r6:Hid (∀ W:World,_):=fun W=>cQ [44] (by intro z hz;simp at hz;omega) (by simp) W;have s7:Hid (∀ W:World,_):=fun W=>dL 2 W;have D7:Hid (∀ W:World,_):=fun W=>dL 0 W;have G0:Hid (∀ W:World,_):=fun W=>dL 2 W;have q6:=aB ((y5.out.K gg).wide gg.size);have O3:=lD p.tail;have u6:=aB l9;have HX:=aB (s7.out u);have N0:=hk;clear gA gg y5 l9 r4 y0 y1 y6 y7 hc x4;subst j3;have B7:=aB E;rw [E] at HX;clear E
 go_enter func36,ntmps36
 go_wp2_with fail
 refine HX.out.mono ?_;rintro e w4 ⟨v4,rfl,o4,g4⟩;have E:=B7.out;rw [<- E] at o4 g4;clear E;obtain ⟨v5,w5,I9,o5,g5,_,⟨a5,c5,D4⟩,_⟩:=(DoR.nil u.heap.size u).push g4 o4 (Nat.le_refl _) (by simp);obtain ⟨a4,c4,d7,_,_⟩:=o4.sl;have G5:Hid (Below u.heap.size u w5):=aO (aU (World.grownBy.refl _ _) g5 (fun j e=>by cases e));have C5:=aB o5;simp only [aI,List.length_singleton] at d7;subst d7 D4;clear HX o4 o5 g4 g5 t4 D8 C8 C4 F4 F2 z9 B0;go_wp2
 go_loopw [14,16,17] (fun r H1 k W=>∃ (j:Nat),j<=c/\k=.int .i64 j/\H1=.int .i64 ((t.N.length - (aT (aF ind d) j (t.N.drop (i+1))).length:Nat):Int)/\DoR u.heap.size W r (aI 2::itK (aF ind d) j (t.N.drop (i+1)))/\Below u.heap.size u W)
  (fun _ _ k _=>c - (intOf k).toNat)
 case atStart=>
  refine ⟨0,Nat.zero_le _,rfl,?_,C5.out,G5.out⟩;simp only [aT,List.length_drop];congr 1;omega
 case round=>
  obtain ⟨j,hj,rfl,rfl,ho,O⟩:=hrel;obtain ⟨a,ha,t1,s8,R8,m6⟩:=p2.out j hj;have C7:=HD.out.wt;rw [<- s8];clear s8;have R6:=cU (itK (aF ind d) j (t.N.drop (i+1)));have i6:=O.size;obtain ⟨y0,y1,y6,y7⟩:=Y.out;have x0:wr.cell? ⟨w.heap.size,0,none⟩=some (.slice (some ⟨b,off,none⟩) t.N.length d9):=(by rw [O.cell (by simp;omega)];exact y0);have x1:wr.cell? ⟨w.heap.size,1,none⟩=some (.slice ta t.tail.length f8):=(by rw [O.cell (by simp;omega)];exact y1);have x6:wr.cell? ⟨w.heap.size+1,6,none⟩=some (.int .i64 c):=(by rw [O.cell (by simp;omega)];exact y6);have x7:wr.cell? ⟨w.heap.size+1,7,none⟩=some (.slice qa p.tail.length h7):=(by rw [O.cell (by simp;omega)];exact y7);clear y0 y1 y6 y7;have HO:=aB ho;have HB:=aB O;obtain ⟨ra,rc,E5,_,_⟩:=ho.sl;generalize d5:(aI 2::itK (aF ind d) j (t.N.drop (i+1))).length=LL at *;have u8:LL<=2000001:=(by rw [<- d5,List.length_cons];omega);subst E5;clear ho O
  by_cases D1:j<c
  ·obtain ⟨h1,k8⟩:=m6 D1;obtain ⟨b',I6,B6,lv,kv,xv,uv,qv,n5,J9,hq⟩:=HV.out.1.at a h1;cases n5;have i9:=y9.out a h1 _ k8 h1;have n7:=Nat.le_trans (lC _ _ (List.getElem_mem h1)) C7;have N5:wC t.N[a].L<=2000000:=(by have:=n7;unfold wN at this;omega);have M9:6*t.N[a].key.length<=2000000:=(by have:=n7;unfold wN at this;omega);have I1:=sM t.N[a].key;have b4:=GG.out;have z8:Hid (RdC u.heap.size u lv t.N[a].L):=(hq.rl.K b4).wide b4.size;have t2:Hid (RdI u.heap.size u kv t.N[a].key):=(hq.rk.K b4).wideC b4.size;have q1:=b4.cell hq.L (by simp);have q2:=b4.cell hq.mem (by simp);have q3:=b4.cell hq.key (by simp);have n2:b<u.heap.size:=(by omega);obtain ⟨B8,p0,m8,_,_⟩:=hq.rl.sl;obtain ⟨C1,n0,o0,_,_⟩:=hq.sk;rw [i9] at q2;have s2:t.N.drop a=t.N[a]::t.N.drop (a+1):=List.drop_eq_getElem_cons h1;have m0:=aB (show gO (aF ind d) (aT (aF ind d) j (t.N.drop (i+1)))=bI t.N[a].L++(nB t.N[a]++[(aF ind d (t.N.drop a)).1]) by rw [t1,s2];rfl);have w6:=aB (show nB t.N[a]=[aG (cO t.N[a].key++[58,32])] by unfold nB;rw [i9];rfl);have r3:Hid (∀ W:World,Below u.heap.size u W->dG W.heap.size W (.slice (some ⟨b,off,none⟩) t.N.length d9) (.slice ta t.tail.length f8) t):=fun W g=>oW (HV.out.1.K b4) (HV.out.2.K b4) b4.size g;have l7:Hid (∀ W:World,Below u.heap.size u W->_):=fun W (g:Below u.heap.size u W)=>G3.out a _ true _ _ W h1 k8 (r3.out W g);have m4:Hid (∀ W:World,Below u.heap.size u W->_):=fun W (g:Below u.heap.size u W)=>kO t (by omega) (fun p hp h5=>((HD.out.nd p hp).2.2.2.2.2.2.2.2.2.1 h5).1) HD.out.cn d a true _ hd h1 k8 _ _ W (r3.out W g);subst m8 o0;have O5:=gY t.N[a].L;have M0:=cU (bI t.N[a].L)
   have f4:=aB (show ∀ W:World,Below u.heap.size u W->W.cell? ⟨b,off+a*8+1,none⟩=some (.slice B8 t.N[a].L.length p0)/\W.cell? ⟨b,off+a*8+2,none⟩=some (.bool true)/\W.cell? ⟨b,off+a*8+3,none⟩=some (.slice C1 t.N[a].key.length n0)/\W.cell? ⟨w.heap.size,0,none⟩=some (.slice (some ⟨b,off,none⟩) t.N.length d9)/\W.cell? ⟨w.heap.size,1,none⟩=some (.slice ta t.tail.length f8) from
    fun W g=>⟨by rw [g.cell (by simpa using n2)];exact q1,by rw [g.cell (by simpa using n2)];exact q2,by rw [g.cell (by simpa using n2)];exact q3,by rw [g.cell (by simp;omega)];exact Y.out.1,by rw [g.cell (by simp;omega)];exact Y.out.2.1⟩)
   have v0:=aB (show itK (aF ind d) (j+1) (t.N.drop (i+1))=itK (aF ind d) j (t.N.drop (i+1))++((if j=0 then [] else [aG [44],aI 2])++gO (aF ind d) (aT (aF ind d) j (t.N.drop (i+1)))) from rfl);clear hq q1 q2 q3 k8 m6 s2 n7 i9 t1;generalize t.N[a]=nd at *;generalize (aF ind d (t.N.drop a)).1=vd at *;generalize q7:aT (aF ind d) (j+1) (t.N.drop (i+1))=RN at *;have x8:=aB q7;clear q7
   by_cases t5:j=0
   ·subst t5;have H4:=HB;have J8:=aB (show aI 2::itK (aF ind d) 0 (t.N.drop (i+1))=[aI 2] from rfl);obtain ⟨u1,u2,u3,_,_⟩:=f4.out wr HB.out;have i7:=aB (iI _ _ _ nd.L u.heap.size wr HO.out i6 (bS z8.out HB.out) (by omega) (by omega))
    go_wp2_with fail
    refine i7.out.mono ?_;rintro e p5 ⟨l0,rfl,b3,b5⟩;have D:=aB (HB.out.trans b5);have b0:=D.out.size;have b1:=aB b3;obtain ⟨r8,r2,b6,_,_⟩:=b3.sl;have F0:(aI 2::itK (aF ind d) 0 (t.N.drop (i+1))++bI nd.L).length<=5000000:=(by rw [List.length_append];have:=u8;omega);generalize H:(aI 2::itK (aF ind d) 0 (t.N.drop (i+1))++bI nd.L).length=L5 at *;subst b6;obtain ⟨G,Z,M,J,S⟩:=f4.out p5 D.out;clear b3 b5 i7 HO;have HK:=aB (pG _ _ p5 (gG t2.out D.out (Nat.le_refl _)) (by omega))
    go_wp2_with fail
    refine HK.out.mono ?_;rintro e p6 ⟨v6,rfl,o6,g6⟩;obtain ⟨v7,p7,i5,o7,g7⟩:=mY p5.heap.size p6 v6 _ [58,32] o6 (by intro z hz;simp at hz;omega) (by simp) g6.size (by simp;omega);rw [show strOfNums [58,32] = { data:=#[58,32] } by rfl] at i5;have G7:=aB (aU g6 g7 (fun x e=>(o6.lt x e).1));have j6:=aB (jL v7 _ p7 o7.rd (by simp;omega));obtain ⟨a6,c6,b9,_,_⟩:=o6.sl;obtain ⟨a7,c7,d1,_,_⟩:=o7.sl;have i3:(cO nd.key++([58,32]:List Int)).length=(cO nd.key).length+2:=(by simp);rw [i3] at d1;generalize F7:(cO nd.key).length=KL at *;subst b9 d1;clear o6 o7 g6 g7 HK i3 G Z M J S
    go_wp2_with fail
    refine j6.out.mono ?_;rintro e p8 ⟨v8,rfl,o8,g8⟩;obtain ⟨v9,p9,t7,o9,g9,_,⟨a9,c9,d3⟩,_⟩:=b1.out.push (aA G7.out g8) (o8.base G7.out.size) b0 (by omega);obtain ⟨a8,c8,d4,_,_⟩:=o8.sl;simp only [aG,List.length_singleton] at d4;have j1:Below u.heap.size p5 p9:=(Below.refl _ _).grown g9 b0 (fun x e=>(b1.out.lt x e).1);have b7:=aB (D.out.trans j1);have f7:=b7.out.size;have h0:=aB o9;rw [H] at d3;subst d4 d3;clear o8 o9 g8 g9 j1 G7 j6 b1;obtain ⟨G,Z,M,J,S⟩:=f4.out p9 b7.out;have j9:=aB (l7.out p9 b7.out)
    go_wp2_with fail
    refine j9.out.mono ?_;rintro e B9 ⟨B4,rfl,h4,d0⟩;obtain ⟨n1,h2,n4,c0,d6,_,⟨l3,k9,A⟩,_⟩:=h0.out.push d0 h4 f7 (by rw [List.length_append,H];simp;omega);obtain ⟨C3,E0,f3,_,_⟩:=h4.sl;have f6:Below u.heap.size p9 h2:=(Below.refl _ _).grown d6 f7 (fun x e=>(h0.out.lt x e).1);have y:=aB (b7.out.trans f6);have h6:=y.out.size;have d2:=aB c0;rw [List.length_append,H,List.length_singleton] at A;generalize vd.length=VL at f3;subst f3 A;clear h4 c0 d0 d6 f6 j9 h0 G Z M J S;obtain ⟨G,Z,M,J,S⟩:=f4.out h2 y.out;have j0:=aB (m4.out h2 y.out)
    go_wp2_with fail
    refine j0.out.mono ?_;rintro e p1 ⟨rfl,b2⟩;have j2:=aB (y.out.grown b2 h6 (fun x e=>by cases e))
    have f5:Hid (DoR u.heap.size p1 (.slice l3 (L5+1+1) k9) (aI 2::itK (aF ind d) (0+1) (t.N.drop (i+1)))):=by
     unfold Hid;rw [v0.out,m0.out,w6.out];have j5:=d2.out.K b2;simpa [itK] using j5
    clear d2 j0 b2 G Z M J S;go_wp2
    go_roundw
    case rel=>exact ⟨0+1,by omega,by go_num,by rw [x8.out],f5.out,j2.out⟩
    case measure=>simp [intOf];omega
   ·have P6:(0:Int)<j:=by omega
    go_wp2_with fail
    refine (r6.out _).mono ?_;rintro e w1 ⟨v1,rfl,o1,g1⟩;obtain ⟨v2,w2,I8,o2,g2,_,⟨a2,c2,i4⟩,_⟩:=HO.out.push g1 o1 i6 (by omega);obtain ⟨a1,c1,i2,_,_⟩:=o1.sl;have r5:Below u.heap.size wr w2:=(Below.refl _ _).grown g2 i6 (fun x e=>(HO.out.lt x e).1);have r1:=aB (HB.out.trans r5);have l4:=r1.out.size;have m7:=aB o2;simp only [aG,List.length_singleton] at i2;rw [d5] at i4;subst i2 i4;clear o1 o2 g1 g2 r5 x0 x1 x6 x7
    go_wp2_with fail
    refine (G0.out _).mono ?_;rintro e w3 ⟨v3,rfl,o3,g3⟩;obtain ⟨v4,g0,u7,o4,g4,_,⟨a4,c4,d7⟩,_⟩:=m7.out.push g3 o3 l4 (by rw [List.length_append,d5];simp;omega);obtain ⟨a3,c3,j7,_,_⟩:=o3.sl;have h8:Below u.heap.size w2 g0:=(Below.refl _ _).grown g4 l4 (fun x e=>(m7.out.lt x e).1);have d8:=aB (r1.out.trans h8);have k0:=d8.out.size;have q8:=aB o4;simp only [aI,List.length_singleton] at j7;rw [List.length_append,d5,List.length_singleton] at d7;subst j7 d7;clear o3 o4 g3 g4 h8 HO m7;obtain ⟨u1,u2,u3,x0,x1⟩:=f4.out g0 d8.out;have C6:(aI 2::itK (aF ind d) j (t.N.drop (i+1))++[aG [44]]++[aI 2]).length<=2000003:=(by rw [List.length_append,List.length_append,d5];simp;omega);have i7:=aB (iI _ _ _ nd.L u.heap.size g0 q8.out k0 (bS z8.out d8.out) (by omega) (by rw [List.length_append,List.length_append,d5];simp;omega))
    go_wp2_with fail
    refine i7.out.mono ?_;rintro e p5 ⟨l0,rfl,b3,b5⟩;have D:=aB (d8.out.trans b5);have b0:=D.out.size;have b1:=aB b3;obtain ⟨r8,r2,b6,_,_⟩:=b3.sl;have F0:(aI 2::itK (aF ind d) j (t.N.drop (i+1))++[aG [44]]++[aI 2]++bI nd.L).length<=5000000:=(by rw [List.length_append];have:=C6;omega);generalize H:(aI 2::itK (aF ind d) j (t.N.drop (i+1))++[aG [44]]++[aI 2]++bI nd.L).length=L5 at *;subst b6;obtain ⟨G,Z,M,J,S⟩:=f4.out p5 D.out;clear b3 b5 i7 q8;have HK:=aB (pG _ _ p5 (gG t2.out D.out (Nat.le_refl _)) (by omega))
    go_wp2_with fail
    refine HK.out.mono ?_;rintro e p6 ⟨v6,rfl,o6,g6⟩;obtain ⟨v7,p7,i5,o7,g7⟩:=mY p5.heap.size p6 v6 _ [58,32] o6 (by intro z hz;simp at hz;omega) (by simp) g6.size (by simp;omega);rw [show strOfNums [58,32] = { data:=#[58,32] } by rfl] at i5;have G7:=aB (aU g6 g7 (fun x e=>(o6.lt x e).1));have j6:=aB (jL v7 _ p7 o7.rd (by simp;omega));obtain ⟨a6,c6,b9,_,_⟩:=o6.sl;obtain ⟨a7,c7,d1,_,_⟩:=o7.sl;have i3:(cO nd.key++([58,32]:List Int)).length=(cO nd.key).length+2:=(by simp);rw [i3] at d1;generalize F7:(cO nd.key).length=KL at *;subst b9 d1;clear o6 o7 g6 g7 HK i3 G Z M J S
    go_wp2_with fail
    refine j6.out.mono ?_;rintro e p8 ⟨v8,rfl,o8,g8⟩;obtain ⟨v9,p9,t7,o9,g9,_,⟨a9,c9,d3⟩,_⟩:=b1.out.push (aA G7.out g8) (o8.base G7.out.size) b0 (by omega);obtain ⟨a8,c8,d4,_,_⟩:=o8.sl;simp only [aG,List.length_singleton] at d4;have j1:Below u.heap.size p5 p9:=(Below.refl _ _).grown g9 b0 (fun x e=>(b1.out.lt x e).1);have b7:=aB (D.out.trans j1);have f7:=b7.out.size;have h0:=aB o9;rw [H] at d3;subst d4 d3;clear o8 o9 g8 g9 j1 G7 j6 b1;obtain ⟨G,Z,M,J,S⟩:=f4.out p9 b7.out;have j9:=aB (l7.out p9 b7.out)
    go_wp2_with fail
    refine j9.out.mono ?_;rintro e B9 ⟨B4,rfl,h4,d0⟩;obtain ⟨n1,h2,n4,c0,d6,_,⟨l3,k9,A⟩,_⟩:=h0.out.push d0 h4 f7 (by rw [List.length_append,H];simp;omega);obtain ⟨C3,E0,f3,_,_⟩:=h4.sl;have f6:Below u.heap.size p9 h2:=(Below.refl _ _).grown d6 f7 (fun x e=>(h0.out.lt x e).1);have y:=aB (b7.out.trans f6);have h6:=y.out.size;have d2:=aB c0;rw [List.length_append,H,List.length_singleton] at A;generalize vd.length=VL at f3;subst f3 A;clear h4 c0 d0 d6 f6 j9 h0 G Z M J S;obtain ⟨G,Z,M,J,S⟩:=f4.out h2 y.out;have j0:=aB (m4.out h2 y.out)
    go_wp2_with fail
    refine j0.out.mono ?_;rintro e p1 ⟨rfl,b2⟩;have j2:=aB (y.out.grown b2 h6 (fun x e=>by cases e))
    have f5:Hid (DoR u.heap.size p1 (.slice l3 (L5+1+1) k9) (aI 2::itK (aF ind d) (j+1) (t.N.drop (i+1)))):=by
     unfold Hid;rw [v0.out,m0.out,w6.out];have j5:=d2.out.K b2;simpa [t5] using j5
    clear d2 j0 b2 G Z M J S;go_wp2
    go_roundw
    case rel=>exact ⟨j+1,by omega,by go_num,by rw [x8.out],f5.out,j2.out⟩
    case measure=>simp [intOf];omega
  ·have B5:j=c:=(by omega);subst B5;clear m6 y9 p2;have H4:=aB HB.out
   go_wp2_with fail
   refine (r6.out _).mono ?_;rintro e w1 ⟨v1,rfl,o1,g1⟩;have x9:=aB o1;have G1:=aB g1;obtain ⟨a1,c1,i2,_,_⟩:=o1.sl;simp only [aG,List.length_singleton] at i2;subst i2;clear o1 g1 x0 x1 x6
   go_wp2_with fail
   refine (D7.out _).mono ?_;rintro e w2 ⟨v2,rfl,o2,g2⟩;have u9:=aB (aCe 9 _ v2 _ _ wr.heap.size w2 (x9.out.K g2).pi (o2.base G1.out.size).pi (by simp [aG,mes]) (by simp [aI,mes]));have G2:=aB (aA G1.out g2);obtain ⟨a2,c2,i4,_,_⟩:=o2.sl;simp only [aI,List.length_singleton] at i4;subst i4;clear o2 g2 x9 G1
   go_wp2_with fail
   refine u9.out.mono ?_;rintro e w3 ⟨v3,rfl,o3,g3⟩;obtain ⟨v4,g0,u7,o4,g4,_,⟨a4,c4,d7⟩,_⟩:=HO.out.push (aA G2.out g3) (o3.base G2.out.size) i6 (by omega);obtain ⟨a3,c3,j7,_,_⟩:=o3.sl;have h8:Below u.heap.size wr g0:=(Below.refl _ _).grown g4 i6 (fun x e=>(HO.out.lt x e).1);have d8:=aB (HB.out.trans h8);have k0:=d8.out.size;have M8:g0.cell? ⟨w.heap.size+1,7,none⟩=some (.slice qa p.tail.length h7):=(by rw [h8.cell (by simp;omega)];exact x7);have s4:=aB (nR _ _ _ p.tail u.heap.size g0 o4 k0 (bS q6.out d8.out) (by have:=u6.out;omega) (by rw [List.length_append,d5];simp;omega));rw [d5] at d7;simp only [aG,aI,List.length_append,List.length_cons,List.length_nil] at j7;subst j7 d7;clear o3 o4 g3 g4 h8 G2 u9 HO x7
   go_wp2_with fail
   refine s4.out.mono ?_;rintro e p5 ⟨l0,rfl,b3,b5⟩;have D:=aB (d8.out.trans b5);have b0:=D.out.size;have l6:=aB (show (aI 2::itK (aF ind d) j (t.N.drop (i+1)))++[aG [44]++aI 0++[(⟨9,[],0⟩:Pc)]]++cW p.tail=iU 6 (itK (aF ind d) j (t.N.drop (i+1))) p.tail by simp [iU,aA3,aG,aI,nH])
   have A7:bO (iU 6 (itK (aF ind d) j (t.N.drop (i+1))) p.tail)<=4100000:=by
    have:=u6.out;simp only [iU,bO,cP,aI,aA3,mes,List.length_cons,List.length_nil];omega
   have o5:DoR u.heap.size p5 l0 (iU 6 (itK (aF ind d) j (t.N.drop (i+1))) p.tail):=(by rw [<- l6.out];exact b3);have HR:=aB (gK l0 _ _ p5 o5.di b0 (by omega));have O4:=jF (iU 6 (itK (aF ind d) j (t.N.drop (i+1))) p.tail);obtain ⟨r8,r2,b6,_,_⟩:=o5.sl;generalize P4:iU 6 (itK (aF ind d) j (t.N.drop (i+1))) p.tail=NN at *;generalize NN.length=L5 at b6;subst b6;clear o5 b3 b5 s4 l6
   go_wp2_with fail
   refine HR.out.mono ?_;rintro e p6 ⟨v6,rfl,o6,g6⟩;have HN:=aB (oZ 7 ind v6 _ _ p6 o6.pi (by omega));have GA:Hid (w.grownBy p6 none):=aA (aA GG.out (aC D.out)) g6;obtain ⟨a6,c6,b9,_,_⟩:=o6.sl;generalize (cT NN).length=L6 at b9;subst b9;clear o6 g6 HR
   go_wp2_with fail
   refine HN.out.mono ?_;rintro e p7 ⟨v7,rfl,o7,g7⟩;have G6:=aB (aA GA.out g7);have s9:=aB (o7.base (B':=w.heap.size) GA.out.size);obtain ⟨a6,c6,b9,_,_⟩:=o7.sl;generalize (cT NN++[(⟨7,[],ind⟩:Pc)]).length=L6 at b9;subst b9;clear o7 g7 HN
   go_wp2_with fail
   refine (s3.out _).mono ?_;rintro e w7 ⟨v7,rfl,o7,g7⟩;have G7:=aB (aA G6.out g7);have s5:=aB (o7.base (B':=w.heap.size) G6.out.size);have l5:=aB (s9.out.K g7);obtain ⟨a7,c7,d1,_,_⟩:=o7.sl;simp only [aG,List.length_singleton] at d1;subst d1;clear o7 g7 s3 s9
   go_wp2_with fail
   refine (s7.out _).mono ?_;rintro e w8 ⟨v8,rfl,o8,g8⟩;have G8:=aB (aA G7.out g8);have t9:=aB (o8.base (B':=w.heap.size) G7.out.size);have j8:=aB (l5.out.K g8);have m5:=aB (s5.out.K g8);obtain ⟨a8,c8,d4,_,_⟩:=o8.sl;simp only [aI,List.length_singleton] at d4;subst d4;clear o8 g8 l5 s5
   go_wp2_with fail
   refine (r7.out _).mono ?_;rintro e w9 ⟨v9,rfl,o9,g9⟩;have G9:=aB (aA G8.out g9);obtain ⟨a9,c9,d3,_,_⟩:=o9.sl;simp only [aG,List.length_singleton] at d3;have t8:=zE w.heap.size w9 _ _ _ _ _ _ _ _ G9.out.size (m5.out.K g9).pi (j8.out.K g9).pi (t9.out.K g9).pi (o9.base (B':=w.heap.size) G8.out.size).pi
   have O2:bO [aG [123],cT NN++[(⟨7,[],ind⟩:Pc)],aI 2,aG [125]]<=4190000:=by
    simp only [bO,fD,aG,aI,mes,List.length_cons,List.length_nil];omega
   have d0:=World.grownBy_alloc w9 (Obj.cells #[.slice a7 1 c7,.slice a6 L6 c6,.slice a8 1 c8,v9] 44) none;have HF:=aB (gK _ _ w.heap.size _ t8 (by have:=(aA G9.out d0).size;exact this) (by omega));have C9:=aB (aA G9.out d0);have L4:=jF [aG [123],cT NN++[(⟨7,[],ind⟩:Pc)],aI 2,aG [125]];subst d3;clear o9 g9 r7 j8 m5 t9 t8 d0
   go_wp2_with fail
   refine HF.out.mono ?_;rintro e E7 ⟨n1,rfl,c0,d6⟩;have HU:=aB (oZ 8 0 n1 _ _ E7 c0.pi (by omega));have r9:=aB (aA C9.out d6);obtain ⟨l3,k9,A,_,_⟩:=c0.sl;generalize (cT [aG [123],cT NN++[(⟨7,[],ind⟩:Pc)],aI 2,aG [125]]).length=L11 at A;subst A;clear c0 d6 HF
   go_wp2_with fail
   refine HU.out.mono ?_;rintro e O0 ⟨P9,rfl,n6,b2⟩;have f5:=aB (n6.base (B':=w.heap.size) r9.out.size);have D0:=aB (aA r9.out b2);obtain ⟨S0,P1,m1,_,_⟩:=n6.sl;generalize (cT [aG [123],cT NN++[(⟨7,[],ind⟩:Pc)],aI 2,aG [125]]++[(⟨8,[],0⟩:Pc)]).length=L12 at m1;subst m1;clear n6 b2 HU;go_wp2;go_ret;refine ⟨_,rfl,?_,D0.out⟩;rw [q5.out];unfold fM;exact f5.out
theorem nW (t:Tre) (ind:Int) (y:iL t):∀ (d:Nat),d<=202->∀ (j:Nat) (A:List Nod) (m:Bool) (nv tv:Value) (w:World),j<t.N.length->aD aZ d m (t.N.drop j,())=some (A,())->dG w.heap.size w nv tv t->
  Calls prog 36 #[.agg #[nv,tv],.int .i64 j,.int .i64 ind] w fun e w'=>∃ M,e=.returned M/\PoR w.heap.size w' M (aF ind d (t.N.drop j)).1/\w.grownBy w' none
 | 0,_,j,A,m,nv,tv,w,_,hw,_=>by simp [aD] at hw
 | d+1,hd,j,A,m,nv,tv,w,hj,hw,hv=>by
   have G:t.N.drop j=t.N[j]::t.N.drop (j+1):=List.drop_eq_getElem_cons hj;have E:=y.nd _ (List.getElem_mem hj)
   by_cases L:t.N[j].k<5
   ·rw [G];simp only [aF,if_pos L];exact aC0 t ind y j hj L nv tv w hv
   ·rw [G] at hw ⊢;simp only [aF,if_neg L];have S:=E.1.2;have U:=E.2.2.2.2.2.2.2.2.2.2
    by_cases u:t.N[j].C=0
    ·unfold iZ;rw [if_pos u]
     by_cases D:t.N[j].tail=[]
     ·rw [if_pos D];rcases (show t.N[j].k=5\/t.N[j].k=6 by omega) with h | h
      ·rw [h];exact aBg t ind y j hj h u D nv tv w hv
      ·rw [h];exact aBx t ind y j hj h u D nv tv w hv
     ·rw [if_neg D];rcases (show t.N[j].k=5\/t.N[j].k=6 by omega) with h | h
      ·rw [h];exact aA9 t ind y j hj h u D nv tv w hv
      ·rw [h];exact aBj t ind y j hj h u D nv tv w hv
    ·have H:aN (aD aZ d (decide (t.N[j].k=6))) t.N[j].C.toNat (t.N.drop (j+1),())=some (A,()):=by
      by_cases J:t.N[j].mem≠m
      ·simp [aD,J] at hw
      ·by_cases O:5<=t.N[j].k/\d=0
       ·simp [aD,J,O,aZ] at hw
       ·simpa only [aD,if_neg J,if_neg O,aZ,Option.bind_some] using hw
     rcases (show t.N[j].k=5\/t.N[j].k=6 by omega) with h | h
     ·rw [h] at H;exact aBr t ind y d (by omega) (fun j A m nv tv w a b c=>nW t ind y d (by omega) j A m nv tv w a b c) j hj h (by omega) A (by simpa using H) nv tv w hv
     ·rw [h] at H;exact aBu t ind y d (by omega) (fun j A m nv tv w a b c=>nW t ind y d (by omega) j A m nv tv w a b c) j hj h (by omega) A (by simpa using H) nv tv w hv
theorem aGW (t:Tre) (ind:Int) (hD:iL t) (l2:wNs t.N+wC t.tail<=3000000) (hw:aD aZ 201 false (t.N,())=some ([],())) (nv tv:Value) (w:World) (hv:dG w.heap.size w nv tv t) :
  Calls prog 17 #[.agg #[nv,tv],.int .i64 ind] w fun e w'=>∃ v',e=.returned v'/\PoR w.heap.size w' v' (dZ ind t)/\w.grownBy w' none:=by
 have h0:0<t.N.length:=by
  rcases hh:t.N with _ | ⟨n,R⟩
  ·rw [hh] at hw;simp [aD] at hw
  ·simp
 have h7:t.N=t.N[0]::t.N.drop 1:=by
  have:=List.drop_eq_getElem_cons h0;simpa using this
 have d9:=aB (show dZ ind t=cT (bI t.N[0].L++((aF ind 201 t.N).1::aI 4::bI t.tail)) by
  unfold dZ
  split
  ·rename_i h;rw [h] at h0;simp at h0
  ·rename_i n R h
   simp only [h,List.getElem_cons_zero])
 have k7:mes (aF ind 201 t.N).1+wC t.N[0].L<=wNs t.N:=by
  obtain ⟨n,P,hP,hm⟩:=sS ind 201 false t.N [] hw (fun p Z h5=>((hD.nd p Z).2.2.2.2.2.2.2.2.2.1 h5).1);have hn:t.N[0]=n:=(by simp only [hP,List.getElem_cons_zero]);have hs:wNs t.N=wN n+wNs P:=(by rw [hP];simp [wNs]);rw [hn,hs];omega
 obtain ⟨G,A⟩:=id hv;obtain ⟨na,d1,f6,_⟩:=id G;obtain ⟨ta,J,f5,_⟩:=id A;obtain ⟨b,off,h9,lv,kv,xv,uv,qv,f4,k9,Z⟩:=G.at 0 h0;obtain ⟨u,j⟩:∃ u,u=w.alloc (Obj.cells #[nv,tv] 33):=⟨_,rfl⟩;have y:w.grownBy u none:=(by rw [j];exact gWA);have GG:=aB y;have z1:=y.cell Z.L (by simp);have y0:u.cell? ⟨w.heap.size,0,none⟩=some nv:=(by rw [j];simp [go_sem]);have y1:u.cell? ⟨w.heap.size,1,none⟩=some tv:=(by rw [j];simp [go_sem]);have sW:u.heap.size=w.heap.size+1:=(by rw [j];simp);have X:=aB (iI (.slice none 0 0) lv [] t.N[0].L u.heap.size u (DoR.nil _ _) (Nat.le_refl _) ((Z.rl.K y).wide y.size) (by omega) (by simp));have h3:=aB ((A.K y).wide y.size);have f9:Hid (∀ W:World,Below u.heap.size u W->dG W.heap.size W nv tv t):=fun W g=>oW (G.K y) (A.K y) y.size g;have H:Hid (∀ W:World,Below u.heap.size u W->_):=fun W (g:Below u.heap.size u W)=>nW t ind hD 201 (by omega) 0 [] false nv tv W h0 (by simpa using hw) (f9.out W g);have h2:Hid (∀ W:World,_):=fun W=>dL 4 W;obtain ⟨la,j9,g2,_,_⟩:=Z.rl.sl;have k6:=gY t.N[0].L;have i0:=cU (bI t.N[0].L);have l4:=gY t.tail;subst g2 f4 f5;cases f6;simp only [Nat.zero_mul,Nat.add_zero] at z1;clear G A hv Z hw;have d8:=aB j;rw [j] at X;have b3:=z1;rw [j] at b3;clear j;have Y:=aB (show _/\_ from ⟨y0,y1⟩);clear y0 y1 z1 y h7;rw [List.drop_zero] at H;generalize (aF ind 201 t.N).1=vd at *;generalize t.N[0].L=ld at *
 go_enter func17,ntmps17
 go_wp2_with fail
 refine X.out.mono ?_;rintro e w2 ⟨v2,rfl,o2,U⟩;have j:=d8.out;rw [<- j] at o2 U;clear j;rw [List.nil_append] at o2;have f7:=aB U;have b4:=U.size;have S:=aB o2;have b1:=aB (H.out w2 U);obtain ⟨a2,c2,f8,_,_⟩:=o2.sl;have x0:w2.cell? ⟨w.heap.size,0,none⟩=some (.slice (some ⟨b,off,none⟩) t.N.length d1):=(by rw [U.cell (by simp;omega)];exact Y.out.1);have x1:w2.cell? ⟨w.heap.size,1,none⟩=some (.slice ta t.tail.length J):=(by rw [U.cell (by simp;omega)];exact Y.out.2);generalize E:(bI ld).length=L2 at *;subst f8;clear o2 U X b3
 go_wp2_with fail
 refine b1.out.mono ?_;rintro e w3 ⟨v3,rfl,o3,g3⟩;obtain ⟨v4,w4,k3,o4,g4,_,⟨a4,c4,b8⟩,_⟩:=S.out.push g3 o3 b4 (by omega);obtain ⟨a3,c3,c1,_,_⟩:=o3.sl;have c9:Below u.heap.size w2 w4:=(Below.refl _ _).grown g4 b4 (fun x e=>(S.out.lt x e).1);have d0:=aB (f7.out.trans c9);have b9:=d0.out.size;have O:=aB o4;rw [E] at b8;generalize vd.length=L3 at c1;subst c1 b8;clear o3 o4 g3 g4 c9 b1 S x0 x1
 go_wp2_with fail
 refine (h2.out _).mono ?_;rintro e w5 ⟨v5,rfl,o5,g5⟩;obtain ⟨v6,w6,h8,o6,g6,_,⟨a6,c6,a9⟩,_⟩:=O.out.push g5 o5 b9 (by rw [List.length_append,E];simp;omega);obtain ⟨a5,c5,d6,_,_⟩:=o5.sl;have b5:Below u.heap.size w4 w6:=(Below.refl _ _).grown g6 b9 (fun x e=>(O.out.lt x e).1);have D:=aB (d0.out.trans b5);have h1:=D.out.size;have c0:=aB (iI v6 _ _ t.tail u.heap.size w6 o6 h1 (bS h3.out D.out) (by omega) (by rw [List.length_append,List.length_append,E];simp;omega));simp only [aI,List.length_singleton] at d6;rw [List.length_append,E,List.length_singleton] at a9;have x1:w6.cell? ⟨w.heap.size,1,none⟩=some (.slice ta t.tail.length J):=(by rw [D.out.cell (by simp;omega)];exact Y.out.2);subst d6 a9;clear o5 o6 g5 g6 b5 O
 go_wp2_with fail
 refine c0.out.mono ?_;rintro e w7 ⟨v7,rfl,o7,b7⟩;have d2:=aB (D.out.trans b7);have HE:=aB (show bI ld++[vd]++[aI 4]++bI t.tail=bI ld++(vd::aI 4::bI t.tail) by simp);have M:DoR u.heap.size w7 v7 (bI ld++(vd::aI 4::bI t.tail)):=(by rw [<- HE.out];exact o7);have HR:=aB (gK v7 _ _ w7 M.di d2.out.size (by rw [cP];simp only [bO,aI,mes,List.length_nil];omega));obtain ⟨a7,c7,b6,_,_⟩:=M.sl;generalize (bI ld++(vd::aI 4::bI t.tail)).length=L7 at b6;subst b6;clear o7 M b7 c0 HE
 go_wp2_with fail
 refine HR.out.mono ?_;rintro e w8 ⟨v8,rfl,o8,g8⟩;have g1:=aB (o8.base (B':=w.heap.size) GG.out.size);have g7:=aB (aA (aA GG.out (aC d2.out)) g8);obtain ⟨a8,c8,d3,_,_⟩:=o8.sl;generalize (cT (bI ld++(vd::aI 4::bI t.tail))).length=L8 at d3;subst d3;clear o8 g8 HR;go_wp2;go_ret;refine ⟨_,rfl,?_,g7.out⟩;rw [d9.out];exact g1.out
end Go.Proofs.YtgifkcpdihphlaaGreatDoor
namespace Go.Proofs.YtgifkcpdihphlaaGreatDoor
open Tryz
open Go.RowKit
def dY (ps:List Pc):Bool:=decide (40000<ps.length)||decide (100000<cR ps)
def bdR (vv:Bool) (ind:Int) (t:Tre):List Pc × Int:=if vv=true/\0<=ind/\ind<=16 then (if dY (dZ ind t)=true then ([],4) else (dZ ind t,0)) else ([],1)
theorem sF (ps:List Pc) (p:Pc):cR (ps++[p])=cR ps+p.t.length:=by
 induction ps with
 | nil=>simp [cR]
 | cons q ps ih=>simp only [List.cons_append,cR,ih];omega
theorem fO:∀ ps,0<=cR ps
 | []=>Int.le_refl _
 | p::ps=>by have:=fO ps;simp only [cR];omega
theorem aDC (v:Value) (ps:List Pc) (B:Nat) (w:World) (hv:PiR B w none v ps) (Z:mes ps<=4194304) :
  Calls prog 16 #[v] w fun e w'=>e=.returned (.bool (dY ps))/\w=w':=by
 have J:=aB hv;obtain ⟨a,cap,H,_⟩:=id hv;subst H;have hl:=pN ps;have U:=wB ps;clear hv
 go_enter func16,ntmps16
 go_wp2
 go_loopw [3,4] (fun o i W=>∃ (k:Nat),k<=ps.length/\i=.int .i64 k/\o=.int .i64 (cR (ps.take k))/\w=W)
  (fun _ i _=>ps.length - (intOf i).toNat)
 case atStart=>exact ⟨0,Nat.zero_le _,rfl,rfl,rfl⟩
 case round=>
  obtain ⟨k,hk,rfl,rfl,rfl⟩:=hrel
  by_cases h:k<ps.length
  ·obtain ⟨b,off,N,G,hz,tv,c0,c1,c2,L⟩:=J.out.at k h;cases G;have hm:=aGz ps ps[k] (List.getElem_mem h)
   have S:=aB (show cR (ps.take (k+1))=cR (ps.take k)+ps[k].t.length by
    rw [show ps.take (k+1)=ps.take k++[ps[k]] by rw [List.take_add_one];simp [h],sF])
   have X:cR (ps.take k)<=4194304:=by
    have y:=wB (ps.take k);have Y:=fD (ps.take k) (ps.drop k);rw [List.take_append_drop] at Y;omega
   have D:=fO (ps.take k);obtain ⟨ta,O,A,_,_⟩:=L.sl;subst A;clear L J;generalize ps[k]=p at *;generalize cR (ps.take k)=sm at *;go_wp2
   go_roundw
   case rel=>exact ⟨k+1,by omega,by go_num,by rw [S.out],trivial⟩
   case measure=>simp [intOf];omega
  ·have E:k=ps.length:=(by omega);subst E;rw [List.take_length];have D:=fO ps;clear J
   by_cases y:40000<ps.length
   ·have hd:decide (40000<ps.length)=true:=(by simp [y]);have j:(40000:Int)<ps.length:=(by omega);go_wp2;go_ret;exact ⟨by simp [dY,y],rfl⟩
   ·have j:¬ (40000:Int)<ps.length:=(by omega);have M:decide ((40000:Int)<ps.length)=false:=(by simpa using j);generalize u:cR ps=sm at *;go_wp2;go_ret;exact ⟨by simp [dY,y,u],rfl⟩
theorem aJf (t:Tre) (ind:Int) (y:iL t) (j:aD aZ 201 false (t.N,())=some ([],())):mes (dZ ind t)<=wNs t.N+wC t.tail+10:=by
 obtain ⟨n,P,h,G⟩:=sS ind 201 false t.N [] j (fun p A D=>((y.nd p A).2.2.2.2.2.2.2.2.2.1 D).1);have E:wNs t.N=wN n+wNs P:=(by rw [h];simp [wNs]);have H:=gY n.L;have J:=gY t.tail
 have u:dZ ind t=cT (bI n.L++((aF ind 201 t.N).1::aI 4::bI t.tail)):=by
  unfold dZ;rw [h]
 rw [u];refine Nat.le_trans (jF _) ?_;rw [cP];simp only [bO,aI,mes,List.length_nil];omega
theorem aDE (k:Int) (w:World):Calls prog 107 #[.int .i64 k] w fun e w'=>e=.returned (.int .i64 (ar k))/\w=w':=by
 by_cases j:k=6
 ·subst j
  go_enter func107,ntmps107
  go_wp2;go_ret;exact ⟨rfl,rfl⟩
 by_cases y:k=9
 ·subst y
  go_enter func107,ntmps107
  go_wp2;go_ret;exact ⟨rfl,rfl⟩
 by_cases h:k=7
 ·subst h
  go_enter func107,ntmps107
  go_wp2;go_ret;exact ⟨rfl,rfl⟩
 by_cases u:k=8
 ·subst u
  go_enter func107,ntmps107
  go_wp2;go_ret;exact ⟨rfl,rfl⟩
 have A:Hid (ar k=0):=(by unfold Hid ar;rw [if_neg (by omega),if_neg (by omega)]);have D:(k==6)=false:=(by simpa using j);have H:(k==7)=false:=(by simpa using h);have E:(k==8)=false:=(by simpa using u);have G:(k==9)=false:=by simpa using y
 go_enter func107,ntmps107
 go_wp2;go_ret;exact ⟨by rw [A.out];rfl,rfl⟩
end Go.Proofs.YtgifkcpdihphlaaGreatDoor
