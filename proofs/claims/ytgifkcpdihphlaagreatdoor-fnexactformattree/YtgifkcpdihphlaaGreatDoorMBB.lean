import Derived.Test.YtgifkcpdihphlaaGreatDoorMBA
set_option maxHeartbeats 16000000
set_option maxRecDepth 100000
namespace Go.Proofs.YtgifkcpdihphlaaGreatDoor
open Tryz
open Go.RowKit
attribute [-go_sem] Builtin.append_
theorem aHk (t:Tre) (ind:Int) (hD:iL t) (d:Nat) (hd:d<=202) (IH:∀ (j:Nat) (R2:List Nod) (m:Bool) (nv tv:Value) (w:World),j<t.N.length->aD aZ d m (t.N.drop j,())=some (R2,())->dG w.heap.size w nv tv t->mes (aF ind d (t.N.drop j)).1<=150000->
   Calls prog 41 #[.agg #[nv,tv],.int .i64 j] w fun e w'=>eL w (aE (aR ind d (t.N.drop j)) []) e w')
  (i:Nat) (hi:i<t.N.length) (hk:t.N[i].k=6) (x3:0<t.N[i].C) (j8:t.N[i].tail=[]) (R2:List Nod) (hw:aN (aD aZ d true) t.N[i].C.toNat (t.N.drop (i+1),())=some (R2,())) (hM:mes (aF ind (d+1) (t.N.drop i)).1<=150000) (nv tv:Value) (w:World) (hv:dG w.heap.size w nv tv t)
  (k0:∀ j o,gR (aR ind d) (aF ind d) (t.N.drop (i+1)) j=some o->j<=t.N[i].C.toNat->o.length<=2000000) :
  Calls prog 41 #[.agg #[nv,tv],.int .i64 i] w fun e w'=>eL w (aE (aR ind (d+1) (t.N.drop i)) []) e w':=by
 have d9:t.N.drop i=t.N[i]::t.N.drop (i+1):=List.drop_eq_getElem_cons hi;have i2:=aB (oE t ind d true (i+1) t.N[i].C.toNat R2 hw (fun p hp h5=>((hD.nd p hp).2.2.2.2.2.2.2.2.2.1 h5).1));have l2:Hid (∀ a,a<t.N.length->∀ R3,aD aZ d true (t.N.drop a,())=some (R3,())->∀ h:a<t.N.length,t.N[a].mem=true):=fun a ha R3 h3 h=>oN t d true a R3 h3 h
 have d2:Hid (∀ j a,j<t.N[i].C.toNat->a<t.N.length->aT (aF ind d) j (t.N.drop (i+1))=t.N.drop a->mes (aF ind d (t.N.drop a)).1<=150000):=fun j a hj ha hr=>by
  have n7:t.N.drop a=t.N[a]::t.N.drop (a+1):=List.drop_eq_getElem_cons ha;have:=zD (n:=t.N[i]) (R:=t.N.drop (i+1)) (d:=d) (ind:=ind) (by omega) (by omega) hj (hr.trans n7);rw [d9] at hM;rw [n7];omega
 have d1:Hid (aE (aR ind (d+1) (t.N.drop i)) []=(gR (aR ind d) (aF ind d) (t.N.drop (i+1)) t.N[i].C.toNat).map fun o=>([123,32]++o)++[32,125]):=by
  unfold Hid;rw [d9];simp only [aR];rw [if_neg (by omega),oX,if_neg (by omega)];simp only [aE];rw [xR,if_pos j8,hk];simp [iT,iY,aHd]
 have HV:=aB hv;have j6:=aB IH;have i0:=aB k0;have t9:=hD.len;clear hw IH d9 hM k0;obtain ⟨l0,m2⟩:=id hv;have HD:=aB hD;obtain ⟨na,H,t7,_⟩:=id l0;obtain ⟨ta,J,s6,_⟩:=id m2;obtain ⟨b,off,y3,lv,kv,xv,uv,qv,j0,C3,hp⟩:=l0.at i hi;have s0:=hD.cn _ (List.getElem_mem hi);have z0:=hp.k;have z1:=hp.L;have z2:=hp.mem;have z3:=hp.key;have z4:=hp.X;have z5:=hp.U;have z6:=hp.C;have z7:=hp.tail;obtain ⟨la,p9,k4,_,_⟩:=hp.rl.sl;obtain ⟨qa,l9,q0,_,_⟩:=hp.rt.sl;obtain ⟨ka,o8,i7,_,_⟩:=hp.sk;obtain ⟨xa,q6,t6,_,_⟩:=hp.sx;obtain ⟨ua,o3,t5,_,_⟩:=hp.su;have i4:t.N[i].tail.length=0:=(by rw [j8];rfl);rw [i4] at q0;subst k4 q0 i7 t6 t5 j0 s6;cases t7;clear l0 m2 hv hp j8 i4;generalize t.N[i]=p at *;obtain ⟨wA,g2⟩:∃ wA,wA=w.alloc (Obj.cells #[.slice (some ⟨b,off,none⟩) t.N.length H,.slice ta t.tail.length J] 33):=⟨_,rfl⟩;have gA:w.grownBy wA none:=(by rw [g2];exact gWA);have t2:=gA.cell z0 (by simp);have B3:=gA.cell z1 (by simp);have D5:=gA.cell z2 (by simp);have D1:=gA.cell z3 (by simp);have B9:=gA.cell z4 (by simp);have E6:=gA.cell z5 (by simp);have x2:=gA.cell z6 (by simp);have C5:=gA.cell z7 (by simp);have sA:wA.heap.size=w.heap.size+1:=(by rw [g2];simp);clear z0 z1 z2 z3 z4 z5 z6 z7;rw [hk] at t2;obtain ⟨c,hc⟩:∃ c:Nat,p.C=(c:Int):=⟨p.C.toNat,by omega⟩;have m9:p.C.toNat=c:=(by omega);rw [m9] at i2 d1 d2 i0;rw [hc] at x2 s0 x3;have C6:0<c:=(by omega);have E4:((c:Int)==0)=false:=(by simp;omega);obtain ⟨u,a8⟩:∃ u,u=wA.alloc (Obj.cells #[.int .i64 6,.slice la p.L.length p9,.bool p.mem,.slice ka p.key.length o8,.slice xa p.X.length q6,.slice ua p.U.length o3,.int .i64 c,.slice qa 0 l9] 49):=⟨_,rfl⟩;have gg:w.grownBy u none:=(by rw [a8];exact aA gA gWA);have h8:u.heap.size=w.heap.size+2:=(by rw [a8];simp [sA]);have GG:=aB gg;have y0:u.cell? ⟨w.heap.size,0,none⟩=some (.slice (some ⟨b,off,none⟩) t.N.length H):=(by rw [a8,g2];simp [go_sem]);have y1:u.cell? ⟨w.heap.size,1,none⟩=some (.slice ta t.tail.length J):=(by rw [a8,g2];simp [go_sem]);have y6:u.cell? ⟨w.heap.size+1,6,none⟩=some (.int .i64 c):=(by rw [a8,<- sA];simp [go_sem]);have Y:=aB (show _/\_/\_ from ⟨y0,y1,y6⟩);have kc:=Lib.run_convert_bytes_const (P:=prog) u 27 5 #[.int .u8 91] 1 1 underlying27 underlying5;obtain ⟨W5,d3⟩:∃ W5,W5=u.alloc (Obj.cells #[.int .u8 91] 5 (1,2)):=⟨_,rfl⟩;have k3:u.grownBy W5 none:=(by rw [d3];exact gWA);have q8:W5.heap.size=w.heap.size+3:=(by rw [d3];simp [h8]);have kd:=Lib.run_convert_bytes_const (P:=prog) W5 27 5 #[.int .u8 123,.int .u8 32] 2 2 underlying27 underlying5;obtain ⟨W4,f9⟩:∃ W4,W4=W5.alloc (Obj.cells #[.int .u8 123,.int .u8 32] 5 (2,3)):=⟨_,rfl⟩;have n4:u.grownBy W4 none:=(by rw [f9];exact aA k3 gWA);have s4:Hid (Bw u.heap.size W4 (.slice (some ⟨w.heap.size+3,0,none⟩) 2 2) [123,32]):=(by rw [<- q8,f9];exact (uO W5 123 32).base k3.size);have G4:=aB (aO n4);rw [q8,d3] at kd;rw [d3] at f9;have n2:=aB f9;clear n4 f9 k3 d3;clear gA gg y0 y1 y6 hc m9;subst g2;rw [h8] at kc;have m1:=aB a8;rw [a8] at kc kd;clear a8
 go_enter func41,ntmps41
 go_wp2
 go_loopw [8,10,11] (fun r v2 k W=>∃ (j:Nat) (o:List Int),j<=c/\k=.int .i64 j/\v2=.int .i64 ((t.N.length - (aT (aF ind d) j (t.N.drop (i+1))).length:Nat):Int)/\Hid (gR (aR ind d) (aF ind d) (t.N.drop (i+1)) j=some o)/\Bw u.heap.size W r ([123,32]++o)/\Below u.heap.size u W)
  (fun _ _ k _=>c - (intOf k).toNat)
 case atStart=>
  refine ⟨0,[],Nat.zero_le _,rfl,?_,rfl,?_,?_⟩
  ·simp only [aT,List.length_drop];congr 1;omega
  ·have h4:=s4.out;rw [n2.out,h8] at h4;rw [<- m1.out,h8];simpa using h4
  ·have h4:=G4.out;rw [n2.out] at h4;rw [<- m1.out];exact h4
 case round=>
  obtain ⟨j,o,hj,rfl,rfl,d8,ho,M⟩:=hrel;obtain ⟨a,ha,i1,p0,D7,i9⟩:=i2.out j hj;have k0:=i0.out j o d8.out hj;rw [<- p0];clear p0;have g1:=M.size;obtain ⟨y0,y1,y6⟩:=Y.out;have x0:wr.cell? ⟨w.heap.size,0,none⟩=some (.slice (some ⟨b,off,none⟩) t.N.length H):=(by rw [M.cell (by simp;omega)];exact y0);have x1:wr.cell? ⟨w.heap.size,1,none⟩=some (.slice ta t.tail.length J):=(by rw [M.cell (by simp;omega)];exact y1);have x6:wr.cell? ⟨w.heap.size+1,6,none⟩=some (.int .i64 c):=(by rw [M.cell (by simp;omega)];exact y6);clear y0 y1 y6;have HO:=aB ho;have HB:=aB M;obtain ⟨ra,rc,u4,_,_⟩:=ho.sl;have D3:([123,32]++o).length<=2000002:=(by simp;omega);generalize l7:([123,32]++o).length=LL at *;subst u4;clear ho M
  by_cases q5:j<c
  ·obtain ⟨b3,h1⟩:=i9 q5;obtain ⟨b',B0,w7,lv,kv,xv,uv,qv,j0,x4,hq⟩:=HV.out.1.at a b3;cases j0;have f3:=l2.out a b3 _ h1 b3;have b6:=GG.out;have q9:Hid (RdI u.heap.size u kv t.N[a].key):=(hq.rk.K b6).wideC b6.size;have q1:=b6.cell hq.L (by simp);have q2:=b6.cell hq.mem (by simp);have q3:=b6.cell hq.key (by simp);have k5:b<u.heap.size:=(by omega);obtain ⟨B6,s2,k4,_,_⟩:=hq.rl.sl;obtain ⟨C0,r7,i7,_,_⟩:=hq.sk;rw [f3] at q2;have m4:t.N[a].key.length<=1048576:=(HD.out.ok _ (List.getElem_mem b3)).k;have p8:t.N.drop a=t.N[a]::t.N.drop (a+1):=List.drop_eq_getElem_cons b3
   have O:Hid (gR (aR ind d) (aF ind d) (t.N.drop (i+1)) (j+1)=if t.N[a].L=[] then (aE (aR ind d (t.N.drop a)) []).map (fun s=>(o++(if j=0 then [] else [44,32]))++(cO t.N[a].key++[58,32])++s) else none):=by
    unfold Hid;simp only [gR,d8.out,Option.bind_some,i1];rw [p8];simp only [lR,f3];simp
   have n5:Hid (∀ W:World,Below u.heap.size u W->dG W.heap.size W (.slice (some ⟨b,off,none⟩) t.N.length H) (.slice ta t.tail.length J) t):=fun W g=>oW (HV.out.1.K b6) (HV.out.2.K b6) b6.size g;have i5:Hid (∀ W:World,Below u.heap.size u W->Calls prog 41 #[.agg #[.slice (some ⟨b,off,none⟩) t.N.length H,.slice ta t.tail.length J],.int .i64 a] W fun e w'=>eL W (aE (aR ind d (t.N.drop a)) []) e w'):=fun W g=>j6.out a _ true _ _ W b3 h1 (n5.out W g) (d2.out j a q5 b3 i1);have i3:Hid (∀ W:World,Below u.heap.size u W->_):=fun W (g:Below u.heap.size u W)=>kO t (by omega) (fun p hp h5=>((HD.out.nd p hp).2.2.2.2.2.2.2.2.2.1 h5).1) HD.out.cn d a true _ hd b3 h1 _ _ W (n5.out W g)
   have b9:=aB (show ∀ W:World,Below u.heap.size u W->W.cell? ⟨b,off+a*8+1,none⟩=some lv/\W.cell? ⟨b,off+a*8+2,none⟩=some (.bool true)/\W.cell? ⟨b,off+a*8+3,none⟩=some kv/\W.cell? ⟨w.heap.size,0,none⟩=some (.slice (some ⟨b,off,none⟩) t.N.length H)/\W.cell? ⟨w.heap.size,1,none⟩=some (.slice ta t.tail.length J) from
    fun W g=>⟨by rw [g.cell (by simpa using k5)];exact q1,by rw [g.cell (by simpa using k5)];exact q2,by rw [g.cell (by simpa using k5)];exact q3,by rw [g.cell (by simp;omega)];exact Y.out.1,by rw [g.cell (by simp;omega)];exact Y.out.2.1⟩)
   have n3:Hid (∀ o',gR (aR ind d) (aF ind d) (t.N.drop (i+1)) (j+1)=some o'->o'.length<=2000000):=fun o' h=>i0.out (j+1) o' h (by omega);have b7:Hid (gR (aR ind d) (aF ind d) (t.N.drop (i+1)) (j+1)=none->aE (aR ind (d+1) (t.N.drop i)) []=none):=fun h=>by rw [d1.out,xJ c (j+1) (by omega) h];rfl
   subst k4 i7;clear hq q1 q2 q3 h1 i9 p8 f3 i1 d2 j6 l2 i2 d8 d1 i0;generalize t.N[a]=nd at *;generalize aE (aR ind d (t.N.drop a)) []=FV at *;generalize m3:aT (aF ind d) (j+1) (t.N.drop (i+1))=RN at *;have n6:=aB m3;clear m3
   by_cases n1:j=0
   ·subst n1;have y:Hid (gR (aR ind d) (aF ind d) (t.N.drop (i+1)) (0+1)=if nd.L=[] then FV.map (fun s=>o++(cO nd.key++[58,32])++s) else none):=(by unfold Hid;rw [O.out];simp);obtain ⟨u1,u2,u3,f8,d7⟩:=b9.out wr HB.out
    by_cases D:nd.L=[]
    ·have g4:nd.L.length=0:=(by rw [D];rfl);rw [g4] at u1;have S:Hid (gR (aR ind d) (aF ind d) (t.N.drop (i+1)) (0+1)=FV.map (fun s=>o++(cO nd.key++[58,32])++s)):=(by unfold Hid;rw [y.out,if_pos D]);clear g4 D;have g0:=aB (pG _ nd.key wr (gG q9.out HB.out (Nat.le_refl _)) m4);have p4:=sM nd.key
     go_wp2_with fail
     refine g0.out.mono ?_;rintro e p5 ⟨v5,rfl,o5,g5⟩;have s8:=g5.size;obtain ⟨v6,p6,m0,o6,g6,_⟩:=nD u.heap.size p5 _ v5 _ _ (HO.out.K g5) o5.rd (by omega) (by omega);have w1:=g6.size;obtain ⟨v7,p7,f5,o7,g7⟩:=mY u.heap.size p6 v6 _ [58,32] o6 (by intro z hz;simp at hz;omega) (by simp) (by omega) (by rw [List.length_append];simp only [List.length_cons,List.length_nil];omega);rw [show strOfNums [58,32] = { data:=#[58,32] } by rfl] at f5;have G:=aB ((HB.out.grown g5 g1 (fun x e=>by cases e)).trans (((Below.refl u.heap.size p5).grown g6 (by omega) (fun x e=>(HO.out.lt x e).1)).trans ((Below.refl u.heap.size p6).grown g7 (by omega) (fun x e=>(o6.lt x e).1))));have b1:=G.out.size;have e7:([123,32]++o)++cO nd.key++[58,32]=[123,32]++(o++(cO nd.key++[58,32])):=(by simp);obtain ⟨a5,c5,g8,_,_⟩:=o5.sl;obtain ⟨a6,c6,d4,_,_⟩:=o6.sl;rw [e7] at o7;have c3:=aB o7;obtain ⟨a7,c7,j3,_,_⟩:=o7.sl;have h7:([123,32]++(o++(cO nd.key++[58,32]))).length<=9000000:=(by rw [<- e7];simp only [List.length_append,List.length_cons,List.length_nil] at *;omega);generalize (cO nd.key).length=KL at g8;generalize (([123,32]++o)++cO nd.key).length=L6 at d4;generalize u9:([123,32]++(o++(cO nd.key++[58,32]))).length=L7 at *;subst g8 d4 j3;obtain ⟨r9,v3,w4,f8,d7⟩:=b9.out p7 G.out;clear o5 o6 o7 g5 g6 g7 e7 g0 u1 u2 u3;have c2:=aB (i5.out p7 G.out)
     go_wp2_with fail
     refine c2.out.mono ?_;intro e c1 hE;cases FV with
     | none=>
       obtain ⟨k2,s5,j1,rfl,E⟩:=hE;have HG:=aB (aA GG.out (aC (G.out.grown E b1 (fun x e=>by cases e))));have HE:=aB (b7.out (by rw [S.out];rfl));clear c2 S b7;go_wp2;go_ret2;rw [HE.out];exact ⟨none,0,0,rfl,HG.out⟩
     | some s=>
       obtain ⟨k8,rfl,c0,E⟩:=hE;have f6:=n3.out _ S.out;have l1:s.length<=2000000:=(by simp only [List.length_append] at f6;omega);have o4:=E.size;obtain ⟨r8,d0,i8,Z,d5,_⟩:=nD u.heap.size c1 _ k8 _ s (c3.out.K E) c0.rd (by omega) (by omega);have b2:Below u.heap.size p7 c1:=(Below.refl _ _).grown E b1 (fun x e=>by cases e);have b0:Below u.heap.size c1 d0:=(Below.refl _ _).grown d5 (by omega) (fun x e=>(c3.out.lt x e).1);have A:=aB (G.out.trans (b2.trans b0));have c4:=A.out.size;rw [List.append_assoc] at Z;have b5:=aB Z;obtain ⟨k2,j1,b4,_,_⟩:=c0.sl;obtain ⟨w8,v4,b8,_,_⟩:=Z.sl;generalize s.length=SL at b4;generalize ([123,32]++((o++(cO nd.key++[58,32]))++s)).length=L11 at b8;subst b4 b8;obtain ⟨_,_,_,r0,q4⟩:=b9.out d0 A.out;have f4:=aB (i3.out d0 A.out);clear c0 Z E d5 b2 b0 c2 c3 b9 f8 d7 f6 l1
       go_wp2_with fail
       refine f4.out.mono ?_;rintro e v8 ⟨rfl,c8⟩;have f7:=aB (A.out.grown c8 c4 (fun x e=>by cases e));have d6:=aB (b5.out.K c8);clear b5 f4 c8;go_wp2
       go_roundw
       case rel=>exact ⟨0+1,_,by omega,by go_num,by rw [n6.out],S.out,by simpa using d6.out,f7.out⟩
       case measure=>simp [intOf];omega
    ·have k6:0<nd.L.length:=List.length_pos_iff.2 D;have l8:decide ((0:Int)<(nd.L.length:Int))=true:=(by simpa using k6);have HG:=aB (aA GG.out (aC HB.out));have HE:=aB (b7.out (by rw [y.out,if_neg D]));clear b7 y O D;go_wp2;go_ret2;rw [HE.out];exact ⟨none,0,0,rfl,HG.out⟩
   ·have D9:0<j:=(by omega);have y:Hid (gR (aR ind d) (aF ind d) (t.N.drop (i+1)) (j+1)=if nd.L=[] then FV.map (fun s=>(o++[44,32])++(cO nd.key++[58,32])++s) else none):=(by unfold Hid;rw [O.out];simp [n1]);obtain ⟨vx,wx,q7,ox,gx⟩:=mY u.heap.size wr _ _ [44,32] HO.out (by intro z hz;simp at hz;omega) (by simp) g1 (by simp;omega);rw [show strOfNums [44,32] = { data:=#[44,32] } by rfl] at q7;have g3:=aB (HB.out.grown gx g1 (fun x e=>(HO.out.lt x e).1));have p2:=g3.out.size;rw [List.append_assoc] at ox;have m8:=aB ox;obtain ⟨B2,B4,s3,_,_⟩:=ox.sl;generalize w2:([123,32]++(o++[44,32])).length=LX at *;have x5:LX<=2000004:=(by rw [<- w2];simp at l7 ⊢;omega);subst s3;clear ox gx;obtain ⟨u1,u2,u3,f8,d7⟩:=b9.out wx g3.out
    by_cases D:nd.L=[]
    ·have g4:nd.L.length=0:=(by rw [D];rfl);rw [g4] at u1;have S:Hid (gR (aR ind d) (aF ind d) (t.N.drop (i+1)) (j+1)=FV.map (fun s=>(o++[44,32])++(cO nd.key++[58,32])++s)):=(by unfold Hid;rw [y.out,if_pos D]);clear g4 D;have g0:=aB (pG _ nd.key wx (gG q9.out g3.out (Nat.le_refl _)) m4);have p4:=sM nd.key
     go_wp2_with fail
     refine g0.out.mono ?_;rintro e p5 ⟨v5,rfl,o5,g5⟩;have s8:=g5.size;obtain ⟨v6,p6,m0,o6,g6,_⟩:=nD u.heap.size p5 _ v5 _ _ (m8.out.K g5) o5.rd (by omega) (by omega);have w1:=g6.size;obtain ⟨v7,p7,f5,o7,g7⟩:=mY u.heap.size p6 v6 _ [58,32] o6 (by intro z hz;simp at hz;omega) (by simp) (by omega) (by rw [List.length_append];simp only [List.length_cons,List.length_nil];omega);rw [show strOfNums [58,32] = { data:=#[58,32] } by rfl] at f5;have G:=aB ((g3.out.grown g5 p2 (fun x e=>by cases e)).trans (((Below.refl u.heap.size p5).grown g6 (by omega) (fun x e=>(m8.out.lt x e).1)).trans ((Below.refl u.heap.size p6).grown g7 (by omega) (fun x e=>(o6.lt x e).1))));have b1:=G.out.size;have e7:([123,32]++(o++[44,32]))++cO nd.key++[58,32]=[123,32]++((o++[44,32])++(cO nd.key++[58,32])):=(by simp);obtain ⟨a5,c5,g8,_,_⟩:=o5.sl;obtain ⟨a6,c6,d4,_,_⟩:=o6.sl;rw [e7] at o7;have c3:=aB o7;obtain ⟨a7,c7,j3,_,_⟩:=o7.sl;have h7:([123,32]++((o++[44,32])++(cO nd.key++[58,32]))).length<=9000000:=(by rw [<- e7];simp only [List.length_append,List.length_cons,List.length_nil] at *;omega);generalize (cO nd.key).length=KL at g8;generalize (([123,32]++(o++[44,32]))++cO nd.key).length=L6 at d4;generalize u9:([123,32]++((o++[44,32])++(cO nd.key++[58,32]))).length=L7 at *;subst g8 d4 j3;obtain ⟨r9,v3,w4,f8,d7⟩:=b9.out p7 G.out;clear o5 o6 o7 g5 g6 g7 e7 g0 u1 u2 u3;have c2:=aB (i5.out p7 G.out)
     go_wp2_with fail
     refine c2.out.mono ?_;intro e c1 hE;cases FV with
     | none=>
       obtain ⟨k2,s5,j1,rfl,E⟩:=hE;have HG:=aB (aA GG.out (aC (G.out.grown E b1 (fun x e=>by cases e))));have HE:=aB (b7.out (by rw [S.out];rfl));clear c2 S b7;go_wp2;go_ret2;rw [HE.out];exact ⟨none,0,0,rfl,HG.out⟩
     | some s=>
       obtain ⟨k8,rfl,c0,E⟩:=hE;have f6:=n3.out _ S.out;have l1:s.length<=2000000:=(by simp only [List.length_append] at f6;omega);have o4:=E.size;obtain ⟨r8,d0,i8,Z,d5,_⟩:=nD u.heap.size c1 _ k8 _ s (c3.out.K E) c0.rd (by omega) (by omega);have b2:Below u.heap.size p7 c1:=(Below.refl _ _).grown E b1 (fun x e=>by cases e);have b0:Below u.heap.size c1 d0:=(Below.refl _ _).grown d5 (by omega) (fun x e=>(c3.out.lt x e).1);have A:=aB (G.out.trans (b2.trans b0));have c4:=A.out.size;rw [List.append_assoc] at Z;have b5:=aB Z;obtain ⟨k2,j1,b4,_,_⟩:=c0.sl;obtain ⟨w8,v4,b8,_,_⟩:=Z.sl;generalize s.length=SL at b4;generalize ([123,32]++(((o++[44,32])++(cO nd.key++[58,32]))++s)).length=L11 at b8;subst b4 b8;obtain ⟨_,_,_,r0,q4⟩:=b9.out d0 A.out;have f4:=aB (i3.out d0 A.out);clear c0 Z E d5 b2 b0 c2 c3 b9 f8 d7 f6 l1
       go_wp2_with fail
       refine f4.out.mono ?_;rintro e v8 ⟨rfl,c8⟩;have f7:=aB (A.out.grown c8 c4 (fun x e=>by cases e));have d6:=aB (b5.out.K c8);clear b5 f4 c8;go_wp2
       go_roundw
       case rel=>exact ⟨j+1,_,by omega,by go_num,by rw [n6.out],S.out,by simpa using d6.out,f7.out⟩
       case measure=>simp [intOf];omega
    ·have k6:0<nd.L.length:=List.length_pos_iff.2 D;have l8:decide ((0:Int)<(nd.L.length:Int))=true:=(by simpa using k6);have HG:=aB (aA GG.out (aC g3.out));have HE:=aB (b7.out (by rw [y.out,if_neg D]));clear b7 y O D;go_wp2;go_ret2;rw [HE.out];exact ⟨none,0,0,rfl,HG.out⟩
  ·have w3:j=c:=(by omega);subst w3;obtain ⟨v9,w9,n8,o9,g9⟩:=mY u.heap.size wr _ _ [32,125] HO.out (by intro z hz;simp at hz;omega) (by simp) g1 (by simp;simp at l7;omega);rw [show strOfNums [32,125] = { data:=#[32,125] } by rfl] at n8;have w5:=aB (HB.out.grown g9 g1 (fun x e=>(HO.out.lt x e).1));have t0:=aB (aA GG.out (aC w5.out));have t4:=aB (o9.base (B':=w.heap.size) GG.out.size);obtain ⟨a9,c9,o1,_,_⟩:=o9.sl;have s1:Hid (aE (aR ind (d+1) (t.N.drop i)) []=some (([123,32]++o)++[32,125])):=(by unfold Hid;rw [d1.out,d8.out];rfl);generalize (([123,32]++o)++[32,125]).length=L9 at o1;subst o1;clear o9 g9 HO i2 d2 l2 j6 d8 i9 i1;go_wp2;go_ret2;rw [s1.out];exact ⟨_,rfl,t4.out,t0.out⟩
theorem aCb {V:List Nod->Tr} {P:List Nod->List Pc × List Nod} {R:List Nod} : ∀ (k:Nat) (o:List Int),(∀ j,j<k->∃ p y,aT P j R=p::y/\∀ s,aE (V (p::y)) []=some s->s.length<=mes (P (p::y)).1)->gR V P R k=some o->o.length<=2*k+bO (itK P k R)/\k<=bO (itK P k R)
 | 0,o,_,h=>by simp [gR] at h;subst h;simp
 | k+1,o,hne,h=>by
   simp only [gR] at h;obtain ⟨G,J,u⟩:=Option.bind_eq_some_iff.1 h;obtain ⟨ih,H⟩:=aCb k G (fun j N=>hne j (by omega)) J;obtain ⟨p,y,D,E⟩:=hne k (by omega);rw [D] at u;simp only at u
   split at u
   ·cases A:aE (V (p::y)) [] with
    | none=>rw [A] at u;cases u
    | some s=>
      rw [A] at u;cases u;have M:=E s A;have L:=aCs p;simp only [itK,cP,D,gO,bO,List.length_append];refine ⟨?_,by omega⟩
      split<;>simp<;>omega
   ·cases u
theorem tG (P:List Nod->List Pc × List Nod) (R:List Nod):∀ (k j:Nat),j<=k->bO (itK P j R)<=bO (itK P k R)
 | 0,j,hj=>by obtain rfl:j=0:=by omega
              exact Nat.le_refl _
 | k+1,j,hj=>by
   by_cases e:j=k+1
   ·subst e;exact Nat.le_refl _
   ·have:=tG P R k j (by omega);simp only [itK,cP];omega
theorem aHz {ind:Int} {d:Nat} {n:Nod} {R:List Nod} (j:¬ n.k<5) (h:n.C≠0):bO (itK (aF ind d) n.C.toNat R)<=mes (aF ind (d+1) (n::R)).1:=by
 simp only [aF,if_neg j,iZ,if_neg h];have u:=rG (iU n.k (itK (aF ind d) n.C.toNat R) n.tail);have y:=rG [aG [iT n.k],fM ind (iU n.k (itK (aF ind d) n.C.toNat R) n.tail),aI (nH n.k),aG [iY n.k]];simp only [bO,fD,fM,mes,iU,cP] at u y ⊢;omega
theorem aID {ind:Int} {d:Nat} {n:Nod} {R:List Nod} (D:n.k<5\/n.C=0):aE (aR 0 (d+1) (n::R)) []=aE (aR ind (d+1) (n::R)) []/\mes (aF 0 (d+1) (n::R)).1=mes (aF ind (d+1) (n::R)).1:=by
 by_cases j:n.k<5
 ·simp [aR,aF,j]
 ·have y:n.C=0:=(by rcases D with h | h;exact absurd h j;exact h);simp only [aR,aF,if_neg j,oX,iZ,if_pos y]
  split
  ·exact ⟨rfl,rfl⟩
  ·have u:∀ (x:Int),aE (iP [bR [iT n.k],lW x (iW n.tail),bC 4,bR [iY n.k]]) []=none:=fun x=>by
    rw [qY];have A:aE (bC 4) []=none:=(by simp [aE,bC]);simp only [eH,A,Option.bind_none,Option.map_none];cases aE (lW x (iW n.tail)) []<;>cases aE (bR [iT n.k]) []<;>rfl
   rw [u,u];refine ⟨rfl,?_⟩;simp only [cT,jA,fM,fD,List.flatMap_cons,mes]
theorem aJi (t:Tre) (hD:iL t) (i:Nat) (hi:i<t.N.length) (h5:¬ t.N[i].k<5) (d9:0<t.N[i].C) (G:t.N[i].tail≠[]) (nv tv:Value) (w:World) (hv:dG w.heap.size w nv tv t) :
  Calls prog 41 #[.agg #[nv,tv],.int .i64 i] w fun e w'=>eL w none e w':=by
 obtain ⟨u,D⟩:=id hv;obtain ⟨na,A,S,_⟩:=id u;obtain ⟨ta,E,a7,_⟩:=id D;obtain ⟨b,off,b7,lv,kv,xv,uv,qv,a6,c9,h⟩:=u.at i hi;have Y:=hD.len;have z0:=h.k;have z1:=h.L;have z2:=h.mem;have z3:=h.key;have z4:=h.X;have z5:=h.U;have z6:=h.C;have z7:=h.tail;obtain ⟨la,b4,Z,_,_⟩:=h.rl.sl;obtain ⟨qa,b1,a4,_,_⟩:=h.rt.sl;obtain ⟨ka,c1,O,_,_⟩:=h.sk;obtain ⟨xa,b5,M,_,_⟩:=h.sx;obtain ⟨ua,c0,J,_,_⟩:=h.su;have a5:0<t.N[i].tail.length:=List.length_pos_iff.2 G;subst Z a4 O M J a6 a7;cases S;clear u D hv h hD G;generalize t.N[i]=p at *;obtain ⟨H,y⟩:∃ H,H=w.alloc (Obj.cells #[.slice (some ⟨b,off,none⟩) t.N.length A,.slice ta t.tail.length E] 33):=⟨_,rfl⟩;have j:w.grownBy H none:=(by rw [y];exact gWA);have c3:=j.cell z0 (by simp);have c7:=j.cell z1 (by simp);have c4:=j.cell z2 (by simp);have d2:=j.cell z3 (by simp);have d6:=j.cell z4 (by simp);have d7:=j.cell z5 (by simp);have d8:=j.cell z6 (by simp);have d3:=j.cell z7 (by simp);have HG:Hid (∀ o:Obj,w.grownBy (H.alloc o) none):=fun o=>aA j gWA;have c8:decide (p.k<5)=false:=(by simpa using h5);have d5:(p.C==0)=false:=(by simp;omega);have c5:decide ((0:Int)<(p.tail.length:Int))=true:=(by simpa using a5);clear z0 z1 z2 z3 z4 z5 z6 z7 j;subst y
 go_enter func41,ntmps41
 go_wp2;go_ret2;exact ⟨none,0,0,rfl,HG.out _⟩
theorem aF6 (t:Tre) (ind:Int) (Z:0<=ind) (a4:ind<=16) (A:iL t) (hx:∀ p∈t.N,NdX p):∀ (d:Nat),d<=201->∀ (j:Nat) (y:List Nod) (m:Bool) (nv tv:Value) (w:World),j<t.N.length->aD aZ d m (t.N.drop j,())=some (y,())->dG w.heap.size w nv tv t->mes (aF ind d (t.N.drop j)).1<=150000->
  Calls prog 41 #[.agg #[nv,tv],.int .i64 j] w fun e w'=>eL w (aE (aR ind d (t.N.drop j)) []) e w'
 | 0,_,j,y,m,nv,tv,w,_,hw,_,_=>by simp [aD] at hw
 | d+1,hd,j,y,m,nv,tv,w,hj,hw,hv,hM=>by
   have u:t.N.drop j=t.N[j]::t.N.drop (j+1):=List.drop_eq_getElem_cons hj;have L:=A.nd _ (List.getElem_mem hj)
   by_cases X:t.N[j].k<5\/t.N[j].C=0
   ·obtain ⟨e1,e2⟩:=aID (ind:=ind) (d:=d) (R:=t.N.drop (j+1)) X;rw [<- u] at e1 e2;rw [<- e1];exact aJO t A hx d hd j hj m y hw X (by omega) nv tv w hv
   ·have Y:¬ t.N[j].k<5:=fun h=>X (.inl h);have J:t.N[j].C≠0:=fun h=>X (.inr h);have hc:=L.2.2.2.2.2.2.2.2.2.2;have b5:=L.1.2;rw [u] at hw;obtain ⟨_,_,M⟩:=oL hw
    by_cases U:t.N[j].tail=[]
    ·have G:∀ p∈t.N.drop (j+1),p.k<5->p.C=0:=fun p hp h=>((A.nd p (List.mem_of_mem_drop hp)).2.2.2.2.2.2.2.2.2.1 h).1
     have O:∀ k o,gR (aR ind d) (aF ind d) (t.N.drop (j+1)) k=some o->k<=t.N[j].C.toNat->o.length<=2000000:=fun k o ho D=>by
      obtain ⟨h1,h2⟩:=aCb k o (fun a ha=>by
       obtain ⟨g1,Q,hQ⟩:=sR (ind:=ind) M G (by omega:a<t.N[j].C.toNat);obtain ⟨p,R',S⟩:=vZ g1;refine ⟨p,R',S,fun s hs=>?_⟩;have H:=aDh ind d _ _ _ g1 (fun q hq=>G q (by rw [hQ];exact List.mem_append_right _ hq));rw [S] at H;have:=jQ _ _ _ hs;have hz:=aI1 H;simp at this;omega) ho
      have h3:=tG (aF ind d) (t.N.drop (j+1)) _ _ D;have h4:=aHz (ind:=ind) (d:=d) (R:=t.N.drop (j+1)) Y J;rw [<- u] at h4;omega
     have IH:∀ (j:Nat) (y:List Nod) (m:Bool) (nv tv:Value) (w:World),j<t.N.length->aD aZ d m (t.N.drop j,())=some (y,())->dG w.heap.size w nv tv t->mes (aF ind d (t.N.drop j)).1<=150000->Calls prog 41 #[.agg #[nv,tv],.int .i64 j] w fun e w'=>eL w (aE (aR ind d (t.N.drop j)) []) e w':=
      fun a b c e f g h k l n=>aF6 t ind Z a4 A hx d (by omega) a b c e f g h k l n
     rcases (show t.N[j].k=5\/t.N[j].k=6 by omega) with D | D
     ·rw [D] at M;exact aHq t ind A d (by omega) IH j hj D (by omega) U y (by simpa using M) hM nv tv w hv O
     ·rw [D] at M;exact aHk t ind A d (by omega) IH j hj D (by omega) U y (by simpa using M) hM nv tv w hv O
    ·have E:aE (aR ind (d+1) (t.N.drop j)) []=none:=by
      rw [u];simp only [aR];rw [if_neg Y,oX,if_neg J];simp only [aE];rw [xR,if_neg U]
     rw [E];exact aJi t A j hj Y (by omega) U nv tv w hv
theorem pH (c:Cm) (tv:Value) (w:World) (hv:RdB w.heap.size w tv c.t) (hs:Sl tv c.t.length) (hn:c.t.length<=1048576) :
  Calls prog 39 #[.agg #[.bool c.b,tv]] w fun e w'=>∃ v',e=.returned v'/\Bw w.heap.size w' v' (jE c)/\w.grownBy w' none:=by
 obtain ⟨b,t⟩:=c;simp only at hv hs hn;obtain ⟨a,cap,O,b9,c0⟩:=hs;subst O;cases b with
 | false=>
   have S:=aB (show jE ⟨false,t⟩=[47,47]++t by simp [jE]);obtain ⟨W,A⟩:∃ W,W=w.alloc (Obj.cells #[.bool false,.slice a t.length cap] 81):=⟨_,rfl⟩;have E:w.grownBy W none:=(by rw [A];exact gWA);have Z:W.heap.size=w.heap.size+1:=(by rw [A];simp);have Y:=Lib.run_convert_bytes_const (P:=prog) W 27 5 #[.int .u8 47,.int .u8 47] 2 2 underlying27 underlying5;obtain ⟨y,u⟩:∃ y,y=W.alloc (Obj.cells #[.int .u8 47,.int .u8 47] 5 (2,3)):=⟨_,rfl⟩;have h:W.grownBy y none:=(by rw [u];exact gWA);have G:Bw W.heap.size y (.slice (some ⟨W.heap.size,0,none⟩) 2 2) [47,47]:=(by rw [u];exact uO W 47 47);obtain ⟨v3,X,H,J,N,_⟩:=nD W.heap.size y _ (.slice a t.length cap) [47,47] t G (((hv.K E).K h).wideC (Nat.le_trans E.size h.size)) h.size (by simp;omega);have U:Hid (w.grownBy X none):=aA E (aU h N (fun j e=>by cases e;exact Nat.le_refl _));have HO:=aB (J.base E.size);obtain ⟨a3,c3,D,_,_⟩:=J.sl;rw [Z] at Y H;generalize ([47,47]++t).length=LL at D;subst D;have c1:W.cell? ⟨w.heap.size,0,none⟩=some (.bool false):=(by rw [A];simp [go_sem]);have c2:y.cell? ⟨w.heap.size,1,none⟩=some (.slice a t.length cap):=h.cell (by rw [A];simp [go_sem]) (by simp);subst u A;clear G J E h hv
   go_enter func39,ntmps39
   go_wp2;go_ret;exact ⟨_,rfl,by rw [S.out];exact HO.out,U.out⟩
 | true=>
   have S:=aB (show jE ⟨true,t⟩=([47,42]++t)++[42,47] by simp [jE]);obtain ⟨W,A⟩:∃ W,W=w.alloc (Obj.cells #[.bool true,.slice a t.length cap] 81):=⟨_,rfl⟩;have E:w.grownBy W none:=(by rw [A];exact gWA);have Z:W.heap.size=w.heap.size+1:=(by rw [A];simp);have Y:=Lib.run_convert_bytes_const (P:=prog) W 27 5 #[.int .u8 47,.int .u8 42] 2 2 underlying27 underlying5;obtain ⟨y,u⟩:∃ y,y=W.alloc (Obj.cells #[.int .u8 47,.int .u8 42] 5 (2,3)):=⟨_,rfl⟩;have h:W.grownBy y none:=(by rw [u];exact gWA);have G:Bw W.heap.size y (.slice (some ⟨W.heap.size,0,none⟩) 2 2) [47,42]:=(by rw [u];exact uO W 47 42);obtain ⟨v3,X,H,J,N,_⟩:=nD W.heap.size y _ (.slice a t.length cap) [47,42] t G (((hv.K E).K h).wideC (Nat.le_trans E.size h.size)) h.size (by simp;omega);have b3:=N.size;have b8:=h.size;obtain ⟨v4,w4,M,h4,g4⟩:=mY W.heap.size X v3 _ [42,47] J (by intro z hz;simp at hz;omega) (by simp) (by omega) (by simp;omega);rw [show strOfNums [42,47] = { data:=#[42,47] } by rfl] at M;have U:Hid (w.grownBy w4 none):=aA E (aU (aU h N (fun j e=>by cases e;exact Nat.le_refl _)) g4 (fun j e=>(J.lt j e).1));have HO:=aB (h4.base E.size);obtain ⟨a3,c3,D,_,_⟩:=J.sl;obtain ⟨a4,c4,L,_,_⟩:=h4.sl;rw [Z] at Y H;generalize ([47,42]++t).length=LL at D;generalize (([47,42]++t)++[42,47]).length=L4 at L;subst D L;have c1:W.cell? ⟨w.heap.size,0,none⟩=some (.bool true):=(by rw [A];simp [go_sem]);have c2:y.cell? ⟨w.heap.size,1,none⟩=some (.slice a t.length cap):=h.cell (by rw [A];simp [go_sem]) (by simp);subst u A;clear G J E h hv
   go_enter func39,ntmps39
   go_wp2;go_ret;exact ⟨_,rfl,by rw [S.out];exact HO.out,U.out⟩
theorem aAL (a b:List Cm) (ind:Int):aP (a++b) ind=aP a ind++aP b ind:=by simp [aP]
theorem aEf (h:List Cm) (ind:Int) (k:Nat) (j:k<h.length):aP (h.take (k+1)) ind=(aP (h.take k) ind++jE h[k])++aJ ind:=by
 rw [show h.take (k+1)=h.take k++[h[k]] by rw [List.take_add_one];simp [j],aAL];simp [aP]
theorem aG1 (h:List Cm) (ind:Int) (k:Nat):(aP (h.take k) ind).length<=(aP h ind).length:=by
 have:=congrArg List.length (aAL (h.take k) (h.drop k) ind);rw [List.take_append_drop,List.length_append] at this;omega
structure bQ (w w':World) (v v':Value):Prop where
 gr:w.grownBy w' v.ownBlock
 bk:v'.ownBlock=v.ownBlock\/∀ k,v'.ownBlock=some k->w.heap.size<=k
theorem bQ.refl (w:World) (v:Value):bQ w w v v:=⟨World.grownBy.refl _ _,.inl rfl⟩
theorem bQ.trans {a b c:World} {u v x:Value} (h:bQ a b u v) (k:bQ b c v x):bQ a c u x:=by
 refine ⟨⟨k.gr.os.trans h.gr.os,k.gr.tape.trans h.gr.tape,k.gr.output.trans h.gr.output,Nat.le_trans h.gr.size k.gr.size,fun i D E=>(k.gr.block i (Nat.lt_of_lt_of_le D h.gr.size) (fun e=>?_)).trans (h.gr.block i D E)⟩,?_⟩
 ·rcases h.bk with A | A
  ·exact E (e.trans A)
  ·have:=A i e.symm;omega
 ·rcases k.bk with y | y
  ·rw [y];exact h.bk
  ·exact .inr fun j e=>Nat.le_trans h.gr.size (y j e)
theorem bQ.ofg {w w':World} (g:w.grownBy w' none) (v:Value):bQ w w' v v:=⟨⟨g.os,g.tape,g.output,g.size,fun i h _=>g.block i h (by simp)⟩,.inl rfl⟩
theorem bQ.grow {a b c:World} {u v:Value} (h:bQ a b u v) (g:b.grownBy c none):bQ a c u v:=h.trans (.ofg g v)
theorem bQ.below {B:Nat} {w w':World} {v y:Value} {zs:List Int} (h:bQ w w' v y) (u:Bw B w v zs) (j:B<=w.heap.size):Below B w w':=(Below.refl B w).grown h.gr j (fun x e=>(u.lt x e).1)
theorem bQ.cell {w w':World} {v A:Value} (h:bQ w w' v A) {a:Addr} {u:Value} (y:w.cell? a=some u) (j:some a.block≠v.ownBlock):w'.cell? a=some u:=h.gr.cell y j
theorem zI {w w':World} {v h:Value} (g:w.grownBy w' v.ownBlock) (u:h.ownBlock=v.ownBlock\/h.ownBlock=some w.heap.size):bQ w w' v h:=⟨g,u.imp id fun e k j=>by rw [e] at j;cases j;exact Nat.le_refl _⟩
theorem fR (B:Nat) (w:World) (v tv:Value) (ys t:List Int) (j:Bw B w v ys) (u:RdB w.heap.size w tv t) (y:B<=w.heap.size) (A:ys.length+t.length<=100000000000) :
  ∃ h w',(Builtin.append_ #[27,27] 27 #[v,tv]).run prog w=.ok h w'/\Bw B w' h (ys++t)/\bQ w w' v h:=by
 obtain ⟨h,w',D,H,G,E⟩:=nD B w v tv ys t j u y A;exact ⟨h,w',D,H,zI G E⟩
theorem aKK (B:Nat) (w:World) (v:Value) (ys D:List Int) (y:Bw B w v ys) (a7:Bys D) (a5:0<D.length) (hB:B<=w.heap.size) (hn:ys.length+D.length<=100000000000) :
  ∃ O w',(Builtin.append_ #[27,9] 27 #[v,.string (strOfNums D)]).run prog w=.ok O w'/\Bw B w' O (ys++D)/\bQ w w' v O:=by
 obtain ⟨O,w',G,ho,hg⟩:=mY B w v ys D y a7 a5 hB hn;refine ⟨O,w',G,ho,zI hg ?_⟩;have h:=strOfNums_size D;obtain ⟨X,U,H,J,M⟩:=info_parts lL;have S:=underlying27;have Y:=underlying9;rcases y with y | ⟨g,rfl,h1,h2,h3,h4⟩
 ·rcases y.2 with ⟨rfl,h0⟩ | ⟨g,cap,a8,rfl,b2,a6,b3,b5,Z,a4⟩
  ·have A:=run_append_nil_string (P:=prog) w 27 9 27 5 X (.int .u8 0) S Y U H (strOfNums D) (by rw [h];omega) (by rw [h];omega) (by rw [M,h];omega);rw [A] at G;cases G;exact .inr rfl
  ·by_cases L:ys.length+(strOfNums D).size<=cap
   ·have A:=Lib.run_append_room_string (P:=prog) w 27 9 27 5 X S Y U J g ys.length cap a8 a6 (strOfNums D) L (by simp at Z;omega);rw [A] at G;cases G;exact .inl rfl
   ·have E:∀ j u,(ys.map (Value.int .u8))[j]?=some u->w.cell? ((⟨g,0,none⟩:Addr).add j)=some u:=World.ownsRow.cells y (g:=g) rfl;have A:=Lib.run_append_grow_string (P:=prog) w 27 9 27 5 X (.int .u8 0) S Y U H ⟨g,0,none⟩ ys.length cap (ys.map (Value.int .u8)) (by rw [J];simp) E (strOfNums D) (by omega) (by rw [h];omega) (growslice_fits (by omega) (by rw [M,h];omega));rw [A] at G;cases G;exact .inr rfl
 ·have E:∀ j u,(ys.map (Value.int .u8))[j]?=some u->w.cell? ((⟨g,0,none⟩:Addr).add j)=some u:=by
   intro j u hj;have N:j<ys.length:=(by have:=(List.getElem?_eq_some_iff.1 hj).1;simpa using this);rw [Addr.add_lit,Nat.zero_add,h4 j N];simpa [N] using hj
  have A:=Lib.run_append_grow_string (P:=prog) w 27 9 27 5 X (.int .u8 0) S Y U H ⟨g,0,none⟩ ys.length ys.length (ys.map (Value.int .u8)) (by rw [J];simp) E (strOfNums D) (by rw [h];omega) (by rw [h];omega) (growslice_fits (by rw [h];omega) (by rw [M,h];omega));rw [A] at G;cases G;exact .inr rfl
theorem mO (B:Nat) (w:World) (v:Value) (ys:List Int) (z:Int) (j:Bw B w v ys) (u:B<=w.heap.size) (E:ys.length<=10000000000) :
  ∃ h w',(Builtin.append_ #[27,27] 27 #[v,.slice (some ⟨w.heap.size,0,none⟩) 1 1]).run prog (w.alloc (.cells #[.int .u8 z] 5))=.ok h w'/\Bw B w' h (ys++[z])/\bQ w w' v h:=by
 have g:=World.grownBy_alloc w (Obj.cells #[.int .u8 z] 5) none;obtain ⟨h,w',A,D,y⟩:=fR B (w.alloc (.cells #[.int .u8 z] 5)) v _ ys [z] (j.K g) (aCN w z).rd (Nat.le_trans u g.size) (by simp;omega);exact ⟨h,w',A,D,(bQ.ofg g v).trans y⟩
theorem nK (ov cv:Value) (out:List Int) (h:List Cm) (level:Int) (B:Nat) (w:World) (D:Bw B w ov out) (hB:B<=w.heap.size) (hc:RdC B w cv h) (hn:∀ c∈h,c.t.length<=1000000) (h0:0<=level) (h1:level<=4000) (hl:out.length+(aP h level).length<=1000000000) :
  Calls prog 18 #[ov,cv,.int .i64 level] w fun e w'=>∃ v',e=.returned v'/\Bw B w' v' (out++aP h level)/\bQ w w' ov v':=by
 have a8:=aB hc;obtain ⟨a,cap,d0,g0,d1,_⟩:=id hc;have f8:h.length<=9223372036854775807:=(by unfold maxLen at d1;omega);obtain ⟨c8,b4,y,_,_⟩:=D.sl;have O:=aB D;subst d0 y;clear hc D
 go_enter func18,ntmps18
 go_wp2
 go_loopw [0,7] (fun r i W=>∃ (k:Nat),k<=h.length/\i=.int .i64 k/\Bw B W r (out++aP (h.take k) level)/\bQ w W (.slice c8 out.length b4) r)
  (fun _ i _=>h.length - (intOf i).toNat)
 case atStart=>exact ⟨0,Nat.zero_le _,rfl,by simpa [aP] using O.out,bQ.refl _ _⟩
 case round=>
  obtain ⟨k,hk,rfl,D,u⟩:=hrel;have A:=u.below O.out hB;have i1:=A.size;have E:RdC B wr (.slice a h.length cap) h:=bS a8.out A;obtain ⟨ra,rc,y,_,_⟩:=D.sl
  by_cases H:k<h.length
  ·obtain ⟨b,off,d5,tv,b0,i5,c0,c1,N,S⟩:=E.at k H;cases b0;have hm:=hn h[k] (List.getElem_mem H);have b2:=aG1 h level (k+1);have G:=aEf h level k H;have HC:Hid (∀ W:World,Below B wr W->_):=fun W (g:Below B wr W)=>pH h[k] tv W (gG N g (by omega)) S (by omega);have HL:Hid (∀ W:World,_):=fun W=>eY level W h0 h1;obtain ⟨ta,tc,a6,_,_⟩:=S
   have HE:Hid (out++aP (h.take (k+1)) level=((out++aP (h.take k) level)++jE h[k])++aJ level):=by
    unfold Hid;rw [G];simp only [List.append_assoc]
   have g5:(out++aP (h.take k) level).length+(jE h[k]).length+(aJ level).length<=1000000000:=by
    have:=congrArg List.length G;simp only [List.length_append] at this ⊢;omega
   have Y:=aB D;have J:=aB u;generalize Z:out++aP (h.take k) level=O1 at *;generalize b8:O1.length=LL at *;subst a6 y;clear N D E A b2 G u;generalize h[k]=c at *
   go_wp2_with fail
   refine (HC.out _ (Below.refl _ _)).mono ?_;rintro e w1 ⟨v1,rfl,o1,U⟩;have i0:=U.size;obtain ⟨v2,w2,d4,o2,g2⟩:=fR B w1 _ v1 O1 (jE c) (Y.out.K U) o1.rd (by omega) (by omega);obtain ⟨a1,i2,a7,_,_⟩:=o1.sl;obtain ⟨a2,c2,b3,_,_⟩:=o2.sl;have j:=(bQ.ofg U (.slice ra LL rc)).trans g2;have d7:=j.gr.size;have b1:=aB j;have L:=aB o2;generalize c6:(O1++jE c).length=L3 at *;have h9:L3+(aJ level).length<=1000000000:=(by rw [<- c6,List.length_append,b8];omega);generalize (jE c).length=LC at *;subst a7 b3;clear o1 o2 U g2 j
   go_wp2_with fail
   refine (HL.out _).mono ?_;rintro e w3 ⟨v3,rfl,o3,X⟩;have h5:=X.size;obtain ⟨v4,w4,f3,o4,g4⟩:=fR B w3 _ v3 _ (aJ level) (L.out.K X) o3.rd (by omega) (by omega);obtain ⟨a3,c3,b9,_,_⟩:=o3.sl;obtain ⟨a4,c4,M,_,_⟩:=o4.sl;have c5:=aB (J.out.trans ((b1.out.grow X).trans g4));have a9:Hid (Bw B w4 v4 (out++aP (h.take (k+1)) level)):=(by unfold Hid;rw [HE.out];exact o4);generalize (O1++jE c++aJ level).length=L4 at M;generalize (aJ level).length=LN at *;subst b9 M;clear o3 o4 X g4 HE L Y HC HL Z c0 c1;go_wp2
   go_roundw
   case rel=>exact ⟨k+1,by omega,by go_num,a9.out,c5.out⟩
   case measure=>simp [intOf];omega
  ·have b5:k=h.length:=(by omega);subst b5;rw [List.take_length] at D y;have Y:=aB D;generalize (out++aP h level).length=LL at *;subst y;clear D E;go_wp2;go_ret;exact ⟨_,rfl,Y.out,u⟩
end Go.Proofs.YtgifkcpdihphlaaGreatDoor
