import Derived.Test.YtckcaefnokeodaaGreatDoorMBC
set_option maxHeartbeats 16000000
set_option maxRecDepth 100000
namespace Go.Proofs.YtckcaefnokeodaaGreatDoor
open Go.Proofs.Tryz Go.RowKit List World
section
attribute [-go_sem] Builtin.append_
theorem aEV (K:Int) (mem:Bool) (OP CL:List Int) (h8:(K=5/\mem=false/\OP=[91]/\CL=[93])\/(K=6/\mem=true/\OP=[123,32]/\CL=[32,125])) (t A) (hD:kU t) (d:Nat) (hd:d<=202) (IH:∀ (j:Nat) (R2:List Nod) (m:Bool) (nv tv:Value) (w:World),j<t.N.length->aE bD d m (t.N.drop j,())=some (R2,())->eV w.heap.size w nv tv t->mes (aH A d (t.N.drop j)).1<=150000->
   Calls prog 47 #[.agg #[nv,tv],.int .i64 j] w fun e w'=>iU w (aD (bJ A d (t.N.drop j)) []) e w') (i:Nat) (hi:i<t.N.length) (hk:t.N[i].k=K) (o2:0<t.N[i].C) (h0:t.N[i].tail=[]) (R2:List Nod) (hw:aN (aE bD d mem) t.N[i].C.toNat (t.N.drop (i+1),())=some (R2,())) (hM:mes (aH A (d+1) (t.N.drop i)).1<=150000) (nv tv) (w:World) (hv:eV w.heap.size w nv tv t) (h9:∀ j o,nY (bJ A d) (aH A d) (t.N.drop (i+1)) j=some o->j<=t.N[i].C.toNat->o.length<=2000000) :
  Calls prog 47 #[.agg #[nv,tv],.int .i64 i] w fun e w'=>iU w (aD (bJ A (d+1) (t.N.drop i)) []) e w':=by
 have b7:t.N.drop i=t.N[i]::t.N.drop (i+1):=drop_eq_getElem_cons hi;have d7:=aB (aAH t A d mem (i+1) t.N[i].C.toNat R2 hw (fun p J h5=>((hD.nd p J).2.2.2.2.2.2.2.2.2.1 h5).1));have i1:Hid (∀ a,a<t.N.length->∀ R3,aE bD d mem (t.N.drop a,())=some (R3,())->∀ h:a<t.N.length,t.N[a].mem=mem):=fun a ha R3 h3 h=>aAq t d mem a R3 h3 h
 have a4:Hid (∀ j a,j<t.N[i].C.toNat->a<t.N.length->bE (aH A d) j (t.N.drop (i+1))=t.N.drop a->mes (aH A d (t.N.drop a)).1<=150000):=fun j a hj ha hr=>by
  have j0:t.N.drop a=t.N[a]::t.N.drop (a+1):=drop_eq_getElem_cons ha;have:=aHc (n:=t.N[i]) (R:=t.N.drop (i+1)) (d:=d) (ind:=A) (by omega) (by omega) hj (hr.trans j0);rw [b7] at hM;rw [j0];omega
 have a1:Hid (aD (bJ A (d+1) (t.N.drop i)) []=(nY (bJ A d) (aH A d) (t.N.drop (i+1)) t.N[i].C.toNat).map fun o=>(OP++o)++CL):=by
  unfold Hid;rw [b7];simp only [bJ];rw [if_neg (by omega),qV,if_neg (by omega)];simp only [aD];rw [aCc,if_pos h0,hk];rcases h8 with ⟨rfl,_,rfl,rfl⟩ | ⟨rfl,_,rfl,rfl⟩<;>simp [jW,kH,aJk]
 have t9:OP.length<=2/\(0<CL.length/\CL.length<=2)/\Bys CL:=by
  rcases h8 with ⟨rfl,_,rfl,rfl⟩ | ⟨rfl,_,rfl,rfl⟩<;>exact ⟨by simp,by simp,by intro z hz;simp at hz;omega⟩
 obtain ⟨A9,C3,t6⟩:=t9;have HV:=aB hv;have g4:=aB IH;have d4:=aB h9;have n9:=hD.len;clear hw IH b7 hM h9;obtain ⟨h1,m4⟩:=id hv;have HD:=aB hD;obtain ⟨na,F,q9,_⟩:=id h1;obtain ⟨ta,G,u6,_⟩:=id m4;obtain ⟨b,I,v2,lv,kv,xv,uv,qv,i3,C1,J⟩:=h1.at i hi;have s4:=hD.cn _ (getElem_mem hi);have z0:=J.k;have z1:=J.L;have z2:=J.mem;have z3:=J.key;have z4:=J.X;have z5:=J.U;have z6:=J.C;have z7:=J.tail;obtain ⟨la,m2,h6,_,_⟩:=J.rl.sl;obtain ⟨qa,l4,m7,_,_⟩:=J.rt.sl;obtain ⟨ka,j4,g3,_,_⟩:=J.sk;obtain ⟨xa,m1,o8,_,_⟩:=J.sx;obtain ⟨ua,j8,n6,_,_⟩:=J.su;have d9:t.N[i].tail.length=0:=(by rw [h0];rfl);rw [d9] at m7;subst h6 m7 g3 o8 n6 i3 u6;cases q9;clear h1 m4 hv J h0 d9;generalize t.N[i]=p at *;obtain ⟨wA,b4⟩:∃ wA,wA=w.alloc (Obj.cells #[.slice (some ⟨b,I,none⟩) t.N.length F,.slice ta t.tail.length G] 26):=⟨_,rfl⟩;have gA:w.grownBy wA none:=(by rw [b4];exact gWA);have u5:=gA.cell z0 (by simp);have B2:=gA.cell z1 (by simp);have D0:=gA.cell z2 (by simp);have C6:=gA.cell z3 (by simp);have C5:=gA.cell z4 (by simp);have E3:=gA.cell z5 (by simp);have t3:=gA.cell z6 (by simp);have D6:=gA.cell z7 (by simp);have sA:wA.heap.size=w.heap.size+1:=(by rw [b4];simp);clear z0 z1 z2 z3 z4 z5 z6 z7;rw [hk] at u5;obtain ⟨c,hc⟩:∃ c:Nat,p.C=(c:Int):=⟨p.C.toNat,by omega⟩;have i6:p.C.toNat=c:=(by omega);rw [i6] at d7 a1 a4 d4;rw [hc] at t3 s4 o2;have D8:0<c:=(by omega);have B5:((c:Int)==0)=false:=(by simp;omega);obtain ⟨D,E⟩:∃ D,D=wA.alloc (Obj.cells #[.int .i64 K,.slice la p.L.length m2,.bool p.mem,.slice ka p.key.length j4,.slice xa p.X.length m1,.slice ua p.U.length j8,.int .i64 c,.slice qa 0 l4] 49):=⟨_,rfl⟩;have gg:w.grownBy D none:=(by rw [E];exact aA gA gWA);have a8:D.heap.size=w.heap.size+2:=(by rw [E];simp [sA]);have GG:=aB gg;have y0:D.cell? ⟨w.heap.size,0,none⟩=some (.slice (some ⟨b,I,none⟩) t.N.length F):=(by rw [E,b4];simp [go_sem]);have y1:D.cell? ⟨w.heap.size,1,none⟩=some (.slice ta t.tail.length G):=(by rw [E,b4];simp [go_sem]);have y6:D.cell? ⟨w.heap.size+1,6,none⟩=some (.int .i64 c):=(by rw [E,<- sA];simp [go_sem]);have Y:=aB (show _/\_/\_ from ⟨y0,y1,y6⟩);have kc:=Lib.run_convert_bytes_const (P:=prog) D 22 5 #[.int .u8 91] 1 1 underlying22 underlying5;obtain ⟨W5,S⟩:∃ W5,W5=D.alloc (Obj.cells #[.int .u8 91] 5 (1,2)):=⟨_,rfl⟩;have d3:D.grownBy W5 none:=(by rw [S];exact gWA);have j9:W5.heap.size=w.heap.size+3:=(by rw [S];simp [a8]);have kd:=Lib.run_convert_bytes_const (P:=prog) W5 22 5 #[.int .u8 123,.int .u8 32] 2 2 underlying22 underlying5;obtain ⟨W4,b6⟩:∃ W4,W4=W5.alloc (Obj.cells #[.int .u8 123,.int .u8 32] 5 (2,3)):=⟨_,rfl⟩;have k2:D.grownBy W4 none:=(by rw [b6];exact aA d3 gWA);have h4:Hid (Bw D.heap.size W4 (.slice (some ⟨w.heap.size+3,0,none⟩) 2 2) [123,32]):=(by rw [<- j9,b6];exact (vG W5 123 32).base d3.size);have g0:Hid (Bw D.heap.size W5 (.slice (some ⟨w.heap.size+2,0,none⟩) 1 1) [91]):=(by rw [S,<- a8];exact aKr D 91);have G4:=aB (aV k2);have G5:=aB (aV d3);rw [j9,S] at kd;rw [S] at b6;rw [a8] at g0 h4 G4 G5;rw [b6,E] at h4 G4;rw [S,E] at g0 G5;clear k2 b6 d3 S;clear gA gg y0 y1 y6 hc i6;subst b4;rw [a8] at kc;have s1:=aB E;rw [E] at kc kd;clear E;rcases h8 with ⟨rfl,rfl,g2,f6⟩ | ⟨rfl,rfl,g2,f6⟩
 all_goals
  go_enter func47,ntmps47
  have p8:=aB g2;have r0:=aB f6;clear g2 f6;go_wp2
  go_loopw [8,10,11] (fun r o3 k W=>∃ (j:Nat) (o:List Int),j<=c/\k=.int .i64 j/\o3=.int .i64 ((t.N.length - (bE (aH A d) j (t.N.drop (i+1))).length:Nat):Int)/\Hid (nY (bJ A d) (aH A d) (t.N.drop (i+1)) j=some o)/\Bw D.heap.size W r (OP++o)/\Below D.heap.size D W)
   (fun _ _ k _=>c - (intOf k).toNat)
  case atStart=>
   refine ⟨0,[],Nat.zero_le _,rfl,?_,rfl,?_,?_⟩
   .simp only [bE,length_drop];congr 1;omega
   .rw [append_nil,p8.out,a8]
    first
     | exact g0.out
     | exact h4.out
   .rw [a8,s1.out]
    first
     | exact G5.out
     | exact G4.out
  case round=>
   obtain ⟨j,o,hj,rfl,rfl,c0,ho,H⟩:=hrel;obtain ⟨a,ha,d6,l9,D2,f8⟩:=d7.out j hj;have h9:=d4.out j o c0.out hj;rw [<- l9];clear l9;have d2:=H.size;obtain ⟨y0,y1,y6⟩:=Y.out;have x0:wr.cell? ⟨w.heap.size,0,none⟩=some (.slice (some ⟨b,I,none⟩) t.N.length F):=(by rw [H.cell (by simp;omega)];exact y0);have x1:wr.cell? ⟨w.heap.size,1,none⟩=some (.slice ta t.tail.length G):=(by rw [H.cell (by simp;omega)];exact y1);have x6:wr.cell? ⟨w.heap.size+1,6,none⟩=some (.int .i64 c):=(by rw [H.cell (by simp;omega)];exact y6);clear y0 y1 y6;have HO:=aB ho;have HB:=aB H;obtain ⟨ra,rc,r4,_,_⟩:=ho.sl;have F6:(OP++o).length<=2000002:=(by rw [length_append];omega);generalize i5:(OP++o).length=LL at *;subst r4;clear ho H
   by_cases m0:j<c
   .obtain ⟨O,c8⟩:=f8 m0;obtain ⟨b',y7,p1,lv,kv,xv,uv,qv,i3,w3,hq⟩:=HV.out.1.at a O;cases i3;have b8:=i1.out a O _ c8 O;have M:=GG.out;have u0:Hid (RdI D.heap.size D kv t.N[a].key):=(hq.rk.K M).wideC M.size;have q1:=M.cell hq.L (by simp);have q2:=M.cell hq.mem (by simp);have q3:=M.cell hq.key (by simp);have g8:b<D.heap.size:=(by omega);obtain ⟨C4,q8,h6,_,_⟩:=hq.rl.sl;obtain ⟨C8,q7,g3,_,_⟩:=hq.sk;have s5:t.N[a].key.length<=1048576:=(HD.out.ok _ (getElem_mem O)).k;have m3:t.N.drop a=t.N[a]::t.N.drop (a+1):=drop_eq_getElem_cons O
    have a0:Hid (nY (bJ A d) (aH A d) (t.N.drop (i+1)) (j+1)=if t.N[a].L=[] then (aD (bJ A d (t.N.drop a)) []).map (fun s=>(o++(if j=0 then [] else [44,32]))++iL t.N[a]++s) else none):=by
     unfold Hid;simp only [nY,c0.out,Option.bind_some,d6];rw [m3]
    have l5:Hid (∀ W:World,Below D.heap.size D W->eV W.heap.size W (.slice (some ⟨b,I,none⟩) t.N.length F) (.slice ta t.tail.length G) t):=fun W g=>xX (HV.out.1.K M) (HV.out.2.K M) M.size g;have k9:Hid (∀ W:World,Below D.heap.size D W->Calls prog 47 #[.agg #[.slice (some ⟨b,I,none⟩) t.N.length F,.slice ta t.tail.length G],.int .i64 a] W fun e w'=>iU W (aD (bJ A d (t.N.drop a)) []) e w'):=fun W g=>g4.out a _ _ _ _ W O c8 (l5.out W g) (a4.out j a m0 O d6);have j6:Hid (∀ W:World,Below D.heap.size D W->_):=fun W (g:Below D.heap.size D W)=>uQ t (by omega) (fun p J h5=>((HD.out.nd p J).2.2.2.2.2.2.2.2.2.1 h5).1) HD.out.cn d a _ _ hd O c8 _ _ W (l5.out W g)
    have d5:=(fun (m:Bool) (hm:t.N[a].mem=m)=>aB (show ∀ W:World,Below D.heap.size D W->W.cell? ⟨b,I+a*8+1,none⟩=some lv/\W.cell? ⟨b,I+a*8+2,none⟩=some (.bool m)/\W.cell? ⟨b,I+a*8+3,none⟩=some kv/\W.cell? ⟨w.heap.size,0,none⟩=some (.slice (some ⟨b,I,none⟩) t.N.length F)/\W.cell? ⟨w.heap.size,1,none⟩=some (.slice ta t.tail.length G) from
     fun W g=>⟨by rw [g.cell (by simpa using g8)];exact q1,by rw [g.cell (by simpa using g8),<- hm];exact q2,by rw [g.cell (by simpa using g8)];exact q3,by rw [g.cell (by simp;omega)];exact Y.out.1,by rw [g.cell (by simp;omega)];exact Y.out.2.1⟩)) _ b8
    have q5:Hid (∀ o',nY (bJ A d) (aH A d) (t.N.drop (i+1)) (j+1)=some o'->o'.length<=2000000):=fun o' h=>d4.out (j+1) o' h (by omega);have c4:Hid (nY (bJ A d) (aH A d) (t.N.drop (i+1)) (j+1)=none->aD (bJ A (d+1) (t.N.drop i)) []=none):=fun h=>by rw [a1.out,aCf c (j+1) (by omega) h];rfl
    subst h6 g3;clear hq q1 q2 q3 c8 f8 m3 d6 a4 g4 i1 d7 c0 a1 d4;generalize t.N[a]=nd at *;generalize aD (bJ A d (t.N.drop a)) []=FV at *;generalize j1:bE (aH A d) (j+1) (t.N.drop (i+1))=RN at *;have r5:=aB j1;clear j1;obtain ⟨S0,h2⟩:∃ S0,S0=o++(if j=0 then [] else [44,32]):=⟨_,rfl⟩;have r8:(OP++S0).length<=2000004:=(by rw [h2,<- append_assoc,length_append,i5];split<;>simp<;>omega);have f5:=aB h2;clear h2
    by_cases g1:j=0
    all_goals first
     | ((have y9:j=0:=g1)
        have F3:¬ 0<j:=(by omega);have d1:Hid (Bw D.heap.size wr (.slice ra LL rc) (OP++S0)):=(by rw [f5.out,if_pos g1,append_nil];exact HO.out);have Z:=HB;clear HO)
     | ((have A6:0<j:=by omega)
        obtain ⟨vx,wx,l6,ox,gx⟩:=uP D.heap.size wr _ _ [44,32] HO.out (by intro z hz;simp at hz;omega) (by simp) d2 (by rw [i5];simp only [length_cons,length_nil];omega);rw [show strOfNums [44,32] = { data:=#[44,32] } by rfl] at l6;have Z:=aB (HB.out.grown gx d2 (fun x e=>(HO.out.lt x e).1));have d1:Hid (Bw D.heap.size wx vx (OP++S0)):=(by rw [f5.out,if_neg g1,<- append_assoc];exact ox);obtain ⟨E8,LX,E5,p3⟩:=ox.sh;subst p3;clear ox gx HO)
    all_goals
     obtain ⟨u1,u2,u3,l7,k8⟩:=d5.out _ Z.out;have i8:=Z.out.size
     by_cases b1:nd.L=[]
     .have k1:nd.L.length=0:=(by rw [b1];rfl);rw [k1] at u1;have d0:Hid (nY (bJ A d) (aH A d) (t.N.drop (i+1)) (j+1)=FV.map (fun s=>S0++iL nd++s)):=(by unfold Hid;rw [a0.out,if_pos b1,f5.out]);clear k1 b1
      first
       | ((have b5:iL nd=iT nd.key++[58,32]:=by simp [iL,b8])
          have i9:=aB (yJ _ nd.key _ (lR u0.out Z.out (Nat.le_refl _)) s5);have x5:=aAd nd.key
          go_wp2_with fail
          refine i9.out.mono ?_;rintro e p5 ⟨v5,rfl,o5,g5⟩;have B7:=g5.size;obtain ⟨v6,p6,v3,o6,g6,_⟩:=uY D.heap.size p5 _ v5 _ _ (d1.out.K g5) o5.rd (by omega) (by omega);have F5:=g6.size;obtain ⟨v7,p7,m8,o7,g7⟩:=uP D.heap.size p6 v6 _ [58,32] o6 (by intro z hz;simp at hz;omega) (by simp) (by omega) (by rw [length_append];simp only [length_cons,length_nil];omega);rw [show strOfNums [58,32] = { data:=#[58,32] } by rfl] at m8;have b2:=aB ((Z.out.grown g5 i8 (fun x e=>by cases e)).trans (((Below.refl D.heap.size p5).grown g6 (by omega) (fun x e=>(d1.out.lt x e).1)).trans ((Below.refl D.heap.size p6).grown g7 (by omega) (fun x e=>(o6.lt x e).1))));have b9:Hid (Bw D.heap.size p7 v7 (OP++(S0++iL nd))):=(by rw [b5,<- append_assoc,<- append_assoc];exact o7);have h7:(OP++(S0++iL nd)).length<=9000000:=(by rw [b5];simp only [length_append,length_cons,length_nil] at r8 ⊢;omega);obtain ⟨a5,L5,c5,s8⟩:=o5.sh;obtain ⟨a6,L6,c6,r2⟩:=o6.sh;obtain ⟨a7,L7,c7,r9⟩:=o7.sh;subst s8 r2 r9;clear o5 o6 o7 g5 g6 g7 i9 u1 u2 u3)
       | ((have b5:iL nd=[]:=by simp [iL,b8])
          have b9:=d1;rw [<- append_nil S0,<- b5] at b9;have h7:(OP++(S0++iL nd)).length<=9000000:=(by rw [b5,append_nil];omega);have b2:=Z)
      have f3:=b2.out.size;obtain ⟨A7,D1,D5,l7,k8⟩:=d5.out _ b2.out;have i2:=aB (k9.out _ b2.out)
      go_wp2_with fail
      refine i2.out.mono ?_;intro e j7 hE;cases FV with
      | none=>
        obtain ⟨r3,E9,p4,rfl,b0⟩:=hE;have HG:=aB (aA GG.out (aC (b2.out.grown b0 f3 (fun x e=>by cases e))));have HE:=aB (c4.out (by rw [d0.out];rfl));clear i2 d0 c4;go_wp2;go_ret2;rw [HE.out];exact ⟨none,0,0,rfl,HG.out⟩
      | some s=>
        obtain ⟨r1,rfl,i0,b0⟩:=hE;have k5:=q5.out _ d0.out;have o4:s.length<=2000000:=(by simp only [length_append] at k5;omega);have y8:=b0.size;obtain ⟨C0,j2,p2,c3,l8,_⟩:=uY D.heap.size j7 _ r1 _ s (b9.out.K b0) i0.rd (by omega) (by omega);have a2:=aB (b2.out.trans (((Below.refl _ _).grown b0 f3 (fun x e=>by cases e)).trans ((Below.refl _ j7).grown l8 (by omega) (fun x e=>(b9.out.lt x e).1))));have f4:=a2.out.size;rw [append_assoc] at c3;have f2:=aB c3;obtain ⟨r3,B9,p4,m6⟩:=i0.sh;obtain ⟨B6,B3,E2,j5⟩:=c3.sh;subst m6 j5;obtain ⟨_,_,_,x3,w5⟩:=d5.out j2 a2.out;have l1:=aB (j6.out j2 a2.out);clear i0 c3 b0 l8 i2 b9 d5 l7 k8 k5 o4
        go_wp2_with fail
        refine l1.out.mono ?_;rintro e F2 ⟨rfl,f9⟩;have l2:=aB (a2.out.grown f9 f4 (fun x e=>by cases e));have l0:=aB (f2.out.K f9);clear f2 l1 f9;go_wp2
        go_roundw
        case rel=>exact ⟨j+1,_,by omega,by go_num,by rw [r5.out],d0.out,by simpa using l0.out,l2.out⟩
        case measure=>simp [intOf];omega
     .have q4:0<nd.L.length:=length_pos_iff.2 b1;have w8:decide ((0:Int)<(nd.L.length:Int))=true:=(by simpa using q4);have HG:=aB (aA GG.out (aC Z.out));have HE:=aB (c4.out (by rw [a0.out,if_neg b1]));clear c4 a0 b1;go_wp2;go_ret2;rw [HE.out];exact ⟨none,0,0,rfl,HG.out⟩
   .have u4:j=c:=(by omega);subst u4;obtain ⟨v9,w9,b3,o9,g9⟩:=uP D.heap.size wr _ _ CL HO.out t6 (by omega) d2 (by omega);rw [r0.out] at b3
    first
     | rw [show strOfNums [32,125] = { data:=#[32,125] } by rfl] at b3
     | rw [show strOfNums [93] = { data:=#[93] } by rfl] at b3
    have s0:=aB (HB.out.grown g9 d2 (fun x e=>(HO.out.lt x e).1));have s7:=aB (aA GG.out (aC s0.out));have t7:=aB (o9.base (B':=w.heap.size) GG.out.size);obtain ⟨a9,L9,c9,n7⟩:=o9.sh;have q0:Hid (aD (bJ A (d+1) (t.N.drop i)) []=some ((OP++o)++CL)):=(by unfold Hid;rw [a1.out,c0.out];rfl);subst n7;clear o9 g9 HO d7 a4 i1 g4 c0 f8 d6;go_wp2;go_ret2;rw [q0.out];exact ⟨_,rfl,t7.out,s7.out⟩
theorem aCI {V:List Nod->Tr} {P:List Nod->List Pc × List Nod} {R} : ∀ (k:Nat) (o:List Int),(∀ j,j<k->∃ p D,bE P j R=p::D/\∀ s,aD (V (p::D)) []=some s->s.length<=mes (P (p::D)).1)->nY V P R k=some o->o.length<=2*k+bW (itK P k R)/\k<=bW (itK P k R)
 | 0,o,_,h=>by simp [nY] at h;subst h;simp
 | k+1,o,hne,h=>by
   simp only [nY] at h;obtain ⟨I,H,A⟩:=Option.bind_eq_some_iff.1 h;obtain ⟨ih,M⟩:=aCI k I (fun j N=>hne j (by omega)) H;obtain ⟨p,D,F,J⟩:=hne k (by omega);rw [F] at A;simp only at A
   split at A
   .cases E:aD (V (p::D)) [] with
    | none=>rw [E] at A;cases A
    | some s=>
      rw [E] at A;cases A;have O:=J s E;have G:=aGm p;simp only [itK,cS,F,jF,bW,length_append];refine ⟨?_,by omega⟩
      split<;>simp<;>omega
   .cases A
theorem tO (P:List Nod->List Pc × List Nod) (R):∀ (k j:Nat),j<=k->bW (itK P j R)<=bW (itK P k R)
 | 0,j,hj=>by obtain rfl:j=0:=by omega
              exact Nat.le_refl _
 | k+1,j,hj=>by
   by_cases e:j=k+1
   .subst e;exact Nat.le_refl _
   .have:=tO P R k j (by omega);simp only [itK,cS];omega
theorem aHh {ind d} {n:Nod} {R} (E:¬ n.k<5) (D:n.C≠0):bW (itK (aH ind d) n.C.toNat R)<=mes (aH ind (d+1) (n::R)).1:=by
 simp only [aH,if_neg E,lD,if_neg D];have h:=rS (pU n.k (itK (aH ind d) n.C.toNat R) n.tail);have A:=rS [aI [jW n.k],iE ind (pU n.k (itK (aH ind d) n.C.toNat R) n.tail),aM (oV n.k),aI [kH n.k]];simp only [bW,fM,iE,mes,pU,cS] at h A ⊢;omega
theorem aIG {ind} {d:Nat} {n:Nod} {R:List Nod} (G:n.k<5\/n.C=0):aD (bJ 0 (d+1) (n::R)) []=aD (bJ ind (d+1) (n::R)) []/\mes (aH 0 (d+1) (n::R)).1=mes (aH ind (d+1) (n::R)).1:=by
 by_cases A:n.k<5
 .simp [bJ,aH,A]
 .have E:n.C=0:=(by rcases G with h | h;exact absurd h A;exact h);simp only [bJ,aH,if_neg A,qV,lD,if_pos E]
  split
  .exact ⟨rfl,rfl⟩
  .have D:∀ (x:Int),aD (iZ [bS [jW n.k],mP x (jI n.tail),bB 4,bS [kH n.k]]) []=none:=fun x=>by
    rw [rO];have F:aD (bB 4) []=none:=(by simp [aD,bB]);simp only [eO,F,Option.bind_none,Option.map_none];cases aD (mP x (jI n.tail)) []<;>cases aD (bS [jW n.k]) []<;>rfl
   rw [D,D];refine ⟨rfl,?_⟩;simp only [eR,jM,iE,fM,flatMap_cons,mes]
theorem aJg (t) (hD:kU t) (i:Nat) (hi:i<t.N.length) (h5:¬ t.N[i].k<5) (d5:0<t.N[i].C) (H:t.N[i].tail≠[]) (nv tv) (w:World) (hv:eV w.heap.size w nv tv t) :
  Calls prog 47 #[.agg #[nv,tv],.int .i64 i] w fun e w'=>iU w none e w':=by
 obtain ⟨D,G⟩:=id hv;obtain ⟨na,E,Z,_⟩:=id D;obtain ⟨ta,F,a1,_⟩:=id G;obtain ⟨b,Y,b9,lv,kv,xv,uv,qv,a5,d2,h⟩:=D.at i hi;have S:=hD.len;have z0:=h.k;have z1:=h.L;have z2:=h.mem;have z3:=h.key;have z4:=h.X;have z5:=h.U;have z6:=h.C;have z7:=h.tail;obtain ⟨la,b5,O,_,_⟩:=h.rl.sl;obtain ⟨qa,b0,a3,_,_⟩:=h.rt.sl;obtain ⟨ka,b4,a0,_,_⟩:=h.sk;obtain ⟨xa,b2,a2,_,_⟩:=h.sx;obtain ⟨ua,c1,M,_,_⟩:=h.su;have a4:0<t.N[i].tail.length:=length_pos_iff.2 H;subst O a3 a0 a2 M a5 a1;cases Z;clear D G hv h hD H;generalize t.N[i]=p at *;obtain ⟨J,I⟩:∃ J,J=w.alloc (Obj.cells #[.slice (some ⟨b,Y,none⟩) t.N.length E,.slice ta t.tail.length F] 26):=⟨_,rfl⟩;have A:w.grownBy J none:=(by rw [I];exact gWA);have d7:=A.cell z0 (by simp);have d1:=A.cell z1 (by simp);have c8:=A.cell z2 (by simp);have f1:=A.cell z3 (by simp);have f0:=A.cell z4 (by simp);have c4:=A.cell z5 (by simp);have c6:=A.cell z6 (by simp);have d6:=A.cell z7 (by simp);have HG:Hid (∀ o:Obj,w.grownBy (J.alloc o) none):=fun o=>aA A gWA;have d4:decide (p.k<5)=false:=(by simpa using h5);have d8:(p.C==0)=false:=(by simp;omega);have c7:decide ((0:Int)<(p.tail.length:Int))=true:=(by simpa using a4);clear z0 z1 z2 z3 z4 z5 z6 z7 A;subst I
 go_enter func47,ntmps47
 go_wp2;go_ret2;exact ⟨none,0,0,rfl,HG.out _⟩
theorem aGd (t) (A:Int) (a6:0<=A) (a7:A<=16) (H:kU t) (hx:∀ p∈t.N,NdX p):∀ (d:Nat),d<=201->∀ (j:Nat) (G:List Nod) (m:Bool) (E D:Value) (w:World),j<t.N.length->aE bD d m (t.N.drop j,())=some (G,())->eV w.heap.size w E D t->mes (aH A d (t.N.drop j)).1<=150000->
  Calls prog 47 #[.agg #[E,D],.int .i64 j] w fun e w'=>iU w (aD (bJ A d (t.N.drop j)) []) e w'
 | 0,_,j,G,m,E,D,w,_,hw,_,_=>by simp [aE] at hw
 | d+1,hd,j,G,m,E,D,w,hj,hw,hv,hM=>by
   have F:t.N.drop j=t.N[j]::t.N.drop (j+1):=drop_eq_getElem_cons hj;have S:=H.nd _ (getElem_mem hj)
   by_cases hb:t.N[j].k<5\/t.N[j].C=0
   .obtain ⟨e1,e2⟩:=aIG (ind:=A) (d:=d) (R:=t.N.drop (j+1)) hb;rw [<- F] at e1 e2;rw [<- e1];exact aJw t H hx d hd j hj m G hw hb (by omega) E D w hv
   .have h5:¬ t.N[j].k<5:=fun h=>hb (.inl h);have O:t.N[j].C≠0:=fun h=>hb (.inr h);have hc:=S.2.2.2.2.2.2.2.2.2.2;have b5:=S.1.2;rw [F] at hw;obtain ⟨_,_,M⟩:=pI hw
    by_cases ht:t.N[j].tail=[]
    .have Y:∀ p∈t.N.drop (j+1),p.k<5->p.C=0:=fun p hp h=>((H.nd p (mem_of_mem_drop hp)).2.2.2.2.2.2.2.2.2.1 h).1
     have a0:∀ k o,nY (bJ A d) (aH A d) (t.N.drop (j+1)) k=some o->k<=t.N[j].C.toNat->o.length<=2000000:=fun k o ho J=>by
      obtain ⟨h1,h2⟩:=aCI k o (fun a ha=>by
       obtain ⟨g1,Q,hQ⟩:=tC (ind:=A) M Y (by omega:a<t.N[j].C.toNat);obtain ⟨p,R',a1⟩:=wQ g1;refine ⟨p,R',a1,fun s hs=>?_⟩;have Z:=aDU A d _ _ _ g1 (fun q hq=>Y q (by rw [hQ];exact mem_append_right _ hq));rw [a1] at Z;have:=kB _ _ _ hs;have hz:=aJQ Z;simp at this;omega) ho
      have h3:=tO (aH A d) (t.N.drop (j+1)) _ _ J;have h4:=aHh (ind:=A) (d:=d) (R:=t.N.drop (j+1)) h5 O;rw [<- F] at h4;omega
     have IH:∀ (j:Nat) (G:List Nod) (m:Bool) (E D:Value) (w:World),j<t.N.length->aE bD d m (t.N.drop j,())=some (G,())->eV w.heap.size w E D t->mes (aH A d (t.N.drop j)).1<=150000->Calls prog 47 #[.agg #[E,D],.int .i64 j] w fun e w'=>iU w (aD (bJ A d (t.N.drop j)) []) e w':=
      fun a b c e f g h k l n=>aGd t A a6 a7 H hx d (by omega) a b c e f g h k l n
     rcases (show t.N[j].k=5\/t.N[j].k=6 by omega) with J | J
     .rw [J] at M;exact aEV 5 false [91] [93] (.inl ⟨rfl,rfl,rfl,rfl⟩) t A H d (by omega) IH j hj J (by omega) ht G (by simpa using M) hM E D w hv a0
     .rw [J] at M;exact aEV 6 true [123,32] [32,125] (.inr ⟨rfl,rfl,rfl,rfl⟩) t A H d (by omega) IH j hj J (by omega) ht G (by simpa using M) hM E D w hv a0
    .have I:aD (bJ A (d+1) (t.N.drop j)) []=none:=by
      rw [F];simp only [bJ];rw [if_neg h5,qV,if_neg O];simp only [aD];rw [aCc,if_neg ht]
     rw [I];exact aJg t H j hj h5 (by omega) ht E D w hv
theorem vV (c:Cm) (tv) (w:World) (O:RdB w.heap.size w tv c.t) (hs:Sl tv c.t.length) (hn:c.t.length<=1048576) :
  Calls prog 45 #[.agg #[.bool c.b,tv]] w fun e w'=>∃ v',e=.returned v'/\Bw w.heap.size w' v' (nO c)/\w.grownBy w' none:=by
 obtain ⟨b,t⟩:=c;simp only at O hs hn;obtain ⟨a,E,a7,c7,b9⟩:=hs;subst a7;cases b with
 | false=>
   have HX:=aB (show nO ⟨false,t⟩=[47,47]++t by simp [nO]);obtain ⟨W,H⟩:∃ W,W=w.alloc (Obj.cells #[.bool false,.slice a t.length E] 96):=⟨_,rfl⟩;have J:w.grownBy W none:=(by rw [H];exact gWA);have sW:W.heap.size=w.heap.size+1:=(by rw [H];simp);have kc:=Lib.run_convert_bytes_const (P:=prog) W 22 5 #[.int .u8 47,.int .u8 47] 2 2 underlying22 underlying5;obtain ⟨D,A⟩:∃ D,D=W.alloc (Obj.cells #[.int .u8 47,.int .u8 47] 5 (2,3)):=⟨_,rfl⟩;have h:W.grownBy D none:=(by rw [A];exact gWA);have G:Bw W.heap.size D (.slice (some ⟨W.heap.size,0,none⟩) 2 2) [47,47]:=(by rw [A];exact vG W 47 47);obtain ⟨v3,w3,F,M,Y,_⟩:=uY W.heap.size D _ (.slice a t.length E) [47,47] t G (((O.K J).K h).wideC (Nat.le_trans J.size h.size)) h.size (by simp;omega);have Z:Hid (w.grownBy w3 none):=aA J (bC h Y (fun j e=>by cases e;exact Nat.le_refl _));have HO:=aB (M.base J.size);obtain ⟨a3,c3,I,_,_⟩:=M.sl;rw [sW] at kc F;generalize ([47,47]++t).length=LL at I;subst I;have c1:W.cell? ⟨w.heap.size,0,none⟩=some (.bool false):=(by rw [H];simp [go_sem]);have c2:D.cell? ⟨w.heap.size,1,none⟩=some (.slice a t.length E):=h.cell (by rw [H];simp [go_sem]) (by simp);subst A H;clear G M J h O
   go_enter func45,ntmps45
   go_wp2;go_ret;exact ⟨_,rfl,by rw [HX.out];exact HO.out,Z.out⟩
 | true=>
   have HX:=aB (show nO ⟨true,t⟩=([47,42]++t)++[42,47] by simp [nO]);obtain ⟨W,H⟩:∃ W,W=w.alloc (Obj.cells #[.bool true,.slice a t.length E] 96):=⟨_,rfl⟩;have J:w.grownBy W none:=(by rw [H];exact gWA);have sW:W.heap.size=w.heap.size+1:=(by rw [H];simp);have kc:=Lib.run_convert_bytes_const (P:=prog) W 22 5 #[.int .u8 47,.int .u8 42] 2 2 underlying22 underlying5;obtain ⟨D,A⟩:∃ D,D=W.alloc (Obj.cells #[.int .u8 47,.int .u8 42] 5 (2,3)):=⟨_,rfl⟩;have h:W.grownBy D none:=(by rw [A];exact gWA);have G:Bw W.heap.size D (.slice (some ⟨W.heap.size,0,none⟩) 2 2) [47,42]:=(by rw [A];exact vG W 47 42);obtain ⟨v3,w3,F,M,Y,_⟩:=uY W.heap.size D _ (.slice a t.length E) [47,42] t G (((O.K J).K h).wideC (Nat.le_trans J.size h.size)) h.size (by simp;omega);have b4:=Y.size;have b7:=h.size;obtain ⟨v4,w4,N,h4,g4⟩:=uP W.heap.size w3 v3 _ [42,47] M (by intro z hz;simp at hz;omega) (by simp) (by omega) (by simp;omega);rw [show strOfNums [42,47] = { data:=#[42,47] } by rfl] at N;have Z:Hid (w.grownBy w4 none):=aA J (bC (bC h Y (fun j e=>by cases e;exact Nat.le_refl _)) g4 (fun j e=>(M.lt j e).1));have HO:=aB (h4.base J.size);obtain ⟨a3,c3,I,_,_⟩:=M.sl;obtain ⟨a4,c4,S,_,_⟩:=h4.sl;rw [sW] at kc F;generalize ([47,42]++t).length=LL at I;generalize (([47,42]++t)++[42,47]).length=L4 at S;subst I S;have c1:W.cell? ⟨w.heap.size,0,none⟩=some (.bool true):=(by rw [H];simp [go_sem]);have c2:D.cell? ⟨w.heap.size,1,none⟩=some (.slice a t.length E):=h.cell (by rw [H];simp [go_sem]) (by simp);subst A H;clear G M J h O
   go_enter func45,ntmps45
   go_wp2;go_ret;exact ⟨_,rfl,by rw [HX.out];exact HO.out,Z.out⟩
theorem aBn (a b:List Cm) (h):aS (a++b) h=aS a h++aS b h:=by simp [aS]
theorem aEk (h:List Cm) (A) (k:Nat) (D:k<h.length):aS (h.take (k+1)) A=(aS (h.take k) A++nO h[k])++aO A:=by
 rw [show h.take (k+1)=h.take k++[h[k]] by rw [take_add_one];simp [D],aBn];simp [aS]
theorem aHm (A:List Cm) (h k):(aS (A.take k) h).length<=(aS A h).length:=by
 have:=congrArg List.length (aBn (A.take k) (A.drop k) h);rw [take_append_drop,length_append] at this;omega
structure dJ (w w':World) (v v':Value):Prop where
 gr:w.grownBy w' v.ownBlock
 bk:v'.ownBlock=v.ownBlock\/∀ k,v'.ownBlock=some k->w.heap.size<=k
theorem dJ.refl (w v):dJ w w v v:=⟨grownBy.refl _ _,.inl rfl⟩
theorem dJ.trans {a b c u v x} (h:dJ a b u v) (k:dJ b c v x):dJ a c u x:=by
 refine ⟨⟨k.gr.os.trans h.gr.os,k.gr.tape.trans h.gr.tape,k.gr.output.trans h.gr.output,Nat.le_trans h.gr.size k.gr.size,fun i F E=>(k.gr.block i (Nat.lt_of_lt_of_le F h.gr.size) (fun e=>?_)).trans (h.gr.block i F E)⟩,?_⟩
 .rcases h.bk with D | D
  .exact E (e.trans D)
  .have:=D i e.symm;omega
 .rcases k.bk with A | A
  .rw [A];exact h.bk
  .exact .inr fun j e=>Nat.le_trans h.gr.size (A j e)
theorem dJ.ofg {w:World} {h} (g:w.grownBy h none) (v):dJ w h v v:=⟨⟨g.os,g.tape,g.output,g.size,fun i A _=>g.block i A (by simp)⟩,.inl rfl⟩
theorem dJ.grow {a b c u v} (h:dJ a b u v) (g:b.grownBy c none):dJ a c u v:=h.trans (.ofg g v)
theorem dJ.below {B w A v E G} (h:dJ w A v E) (D:Bw B w v G) (F:B<=w.heap.size):Below B w A:=(Below.refl B w).grown h.gr F (fun x e=>(D.lt x e).1)
theorem dJ.cell {w D v F} (h:dJ w D v F) {a} {u:Value} (E:w.cell? a=some u) (A:some a.block≠v.ownBlock):D.cell? a=some u:=h.gr.cell E A
theorem aBz {w:World} {A} {v h:Value} (g:w.grownBy A v.ownBlock) (E:h.ownBlock=v.ownBlock\/h.ownBlock=some w.heap.size):dJ w A v h:=⟨g,E.imp id fun e k D=>by rw [e] at D;cases D;exact Nat.le_refl _⟩
theorem kV (B w v G E t) (h:Bw B w v E) (F:RdB w.heap.size w G t) (N:B<=w.heap.size) (J:E.length+t.length<=100000000000) :
  ∃ D A,(Builtin.append_ #[22,22] 22 #[v,G]).run prog w=.ok D A/\Bw B A D (E++t)/\dJ w A v D:=by
 obtain ⟨D,A,M,I,O,H⟩:=uY B w v G E t h F N J;exact ⟨D,A,M,I,aBz O H⟩
theorem aKU (B w v E F) (A:Bw B w v E) (a7:Bys F) (a9:0<F.length) (hB:B<=w.heap.size) (hn:E.length+F.length<=100000000000) :
  ∃ S Y,(Builtin.append_ #[22,9] 22 #[v,.string (strOfNums F)]).run prog w=.ok S Y/\Bw B Y S (E++F)/\dJ w Y v S:=by
 obtain ⟨S,Y,H,ho,hg⟩:=uP B w v E F A a7 a9 hB hn;refine ⟨S,Y,H,ho,aBz hg ?_⟩;have h:=strOfNums_size F;obtain ⟨i0,hi,I,N,J⟩:=info_parts mA;have ht:=underlying22;have hu:=underlying9;rcases A with A | ⟨g,rfl,h1,h2,h3,h4⟩
 .rcases A.2 with ⟨rfl,h0⟩ | ⟨g,M,a4,rfl,b8,a8,b7,b5,a6,a5⟩
  .have D:=run_append_nil_string (P:=prog) w 22 9 22 5 i0 (.int .u8 0) ht hu hi I (strOfNums F) (by rw [h];omega) (by rw [h];omega) (by rw [J,h];omega);rw [D] at H;cases H;exact .inr rfl
  .by_cases O:E.length+(strOfNums F).size<=M
   .have D:=Lib.run_append_room_string (P:=prog) w 22 9 22 5 i0 ht hu hi N g E.length M a4 a8 (strOfNums F) O (by simp at a6;omega);rw [D] at H;cases H;exact .inl rfl
   .have G:∀ j u,(E.map (Value.int .u8))[j]?=some u->w.cell? ((⟨g,0,none⟩:Addr).add j)=some u:=ownsRow.cells A (g:=g) rfl;have D:=Lib.run_append_grow_string (P:=prog) w 22 9 22 5 i0 (.int .u8 0) ht hu hi I ⟨g,0,none⟩ E.length M (E.map (Value.int .u8)) (by rw [N];simp) G (strOfNums F) (by omega) (by rw [h];omega) (growslice_fits (by omega) (by rw [J,h];omega));rw [D] at H;cases H;exact .inr rfl
 .have G:∀ j u,(E.map (Value.int .u8))[j]?=some u->w.cell? ((⟨g,0,none⟩:Addr).add j)=some u:=by
   intro j u hj;have Z:j<E.length:=(by have:=(List.getElem?_eq_some_iff.1 hj).1;simpa using this);rw [Addr.add_lit,Nat.zero_add,h4 j Z];simpa [Z] using hj
  have D:=Lib.run_append_grow_string (P:=prog) w 22 9 22 5 i0 (.int .u8 0) ht hu hi I ⟨g,0,none⟩ E.length E.length (E.map (Value.int .u8)) (by rw [N];simp) G (strOfNums F) (by rw [h];omega) (by rw [h];omega) (growslice_fits (by rw [h];omega) (by rw [J,h];omega));rw [D] at H;cases H;exact .inr rfl
theorem vW (B w v E) (z:Int) (h:Bw B w v E) (H:B<=w.heap.size) (J:E.length<=10000000000) :
  ∃ D A,(Builtin.append_ #[22,22] 22 #[v,.slice (some ⟨w.heap.size,0,none⟩) 1 1]).run prog (w.alloc (.cells #[.int .u8 z] 5))=.ok D A/\Bw B A D (E++[z])/\dJ w A v D:=by
 have g:=grownBy_alloc w (Obj.cells #[.int .u8 z] 5) none;obtain ⟨D,A,G,F,I⟩:=kV B (w.alloc (.cells #[.int .u8 z] 5)) v _ E [z] (h.K g) (aDO w z).rd (Nat.le_trans H g.size) (by simp;omega);exact ⟨D,A,G,F,(dJ.ofg g v).trans I⟩
theorem sC (ov cv D A) (h:Int) (B w) (I:Bw B w ov D) (hB:B<=w.heap.size) (hc:RdC B w cv A) (hn:∀ c∈A,c.t.length<=1000000) (h0:0<=h) (h1:h<=4000) (hl:D.length+(aS A h).length<=1000000000) :
  Calls prog 18 #[ov,cv,.int .i64 h] w fun e w'=>∃ v',e=.returned v'/\Bw B w' v' (D++aS A h)/\dJ w w' ov v':=by
 have b8:=aB hc;obtain ⟨a,d3,d1,h9,b1,_⟩:=id hc;have i9:A.length<=9223372036854775807:=(by unfold maxLen at b1;omega);obtain ⟨c7,b7,G,_,_⟩:=I.sl;have Z:=aB I;subst d1 G;clear hc I
 go_enter func18,ntmps18
 go_wp2
 go_loopw [0,7] (fun r i W=>∃ (k:Nat),k<=A.length/\i=.int .i64 k/\Bw B W r (D++aS (A.take k) h)/\dJ w W (.slice c7 D.length b7) r)
  (fun _ i _=>A.length - (intOf i).toNat)
 case atStart=>exact ⟨0,Nat.zero_le _,rfl,by simpa [aS] using Z.out,dJ.refl _ _⟩
 case round=>
  obtain ⟨k,hk,rfl,I,F⟩:=hrel;have H:=F.below Z.out hB;have h7:=H.size;have M:RdC B wr (.slice a A.length d3) A:=dY b8.out H;obtain ⟨ra,rc,G,_,_⟩:=I.sl
  by_cases N:k<A.length
  .obtain ⟨b,h8,f1,tv,d9,i0,c0,c1,S,O⟩:=M.at k N;cases d9;have hm:=hn A[k] (getElem_mem N);have d2:=aHm A h (k+1);have J:=aEk A h k N;have HC:Hid (∀ W:World,Below B wr W->_):=fun W (g:Below B wr W)=>vV A[k] tv W (lR S g (by omega)) O (by omega);have HL:Hid (∀ W:World,_):=fun W=>lS h W h0 h1;obtain ⟨ta,tc,b2,_,_⟩:=O
   have HE:Hid (D++aS (A.take (k+1)) h=((D++aS (A.take k) h)++nO A[k])++aO h):=by
    unfold Hid;rw [J];simp only [append_assoc]
   have i8:(D++aS (A.take k) h).length+(nO A[k]).length+(aO h).length<=1000000000:=by
    have:=congrArg List.length J;simp only [length_append] at this ⊢;omega
   have HO:=aB I;have a0:=aB F;generalize b0:D++aS (A.take k) h=O1 at *;generalize b4:O1.length=LL at *;subst b2 G;clear S I M H d2 J F;generalize A[k]=c at *
   go_wp2_with fail
   refine (HC.out _ (Below.refl _ _)).mono ?_;rintro e w1 ⟨v1,rfl,o1,g1⟩;have i2:=g1.size;obtain ⟨v2,w2,f3,o2,g2⟩:=kV B w1 _ v1 O1 (nO c) (HO.out.K g1) o1.rd (by omega) (by omega);obtain ⟨a1,h6,c5,_,_⟩:=o1.sl;obtain ⟨a2,c2,c6,_,_⟩:=o2.sl;have E:=(dJ.ofg g1 (.slice ra LL rc)).trans g2;have f6:=E.gr.size;have b6:=aB E;have Y:=aB o2;generalize c9:(O1++nO c).length=L3 at *;have j0:L3+(aO h).length<=1000000000:=(by rw [<- c9,length_append,b4];omega);generalize (nO c).length=LC at *;subst c5 c6;clear o1 o2 g1 g2 E
   go_wp2_with fail
   refine (HL.out _).mono ?_;rintro e w3 ⟨v3,rfl,o3,g3⟩;have g6:=g3.size;obtain ⟨v4,w4,g0,o4,g4⟩:=kV B w3 _ v3 _ (aO h) (Y.out.K g3) o3.rd (by omega) (by omega);obtain ⟨a3,c3,d0,_,_⟩:=o3.sl;obtain ⟨a4,c4,a5,_,_⟩:=o4.sl;have b3:=aB (a0.out.trans ((b6.out.grow g3).trans g4));have d6:Hid (Bw B w4 v4 (D++aS (A.take (k+1)) h)):=(by unfold Hid;rw [HE.out];exact o4);generalize (O1++nO c++aO h).length=L4 at a5;generalize (aO h).length=LN at *;subst d0 a5;clear o3 o4 g3 g4 HE Y HO HC HL b0 c0 c1;go_wp2
   go_roundw
   case rel=>exact ⟨k+1,by omega,by go_num,d6.out,b3.out⟩
   case measure=>simp [intOf];omega
  .have d7:k=A.length:=(by omega);subst d7;rw [take_length] at I G;have HO:=aB I;generalize (D++aS A h).length=LL at *;subst G;clear I M;go_wp2;go_ret;exact ⟨_,rfl,HO.out,F⟩
end
theorem nE (v D) (w:World) (hv:RdB w.heap.size w v D) (a8:Bys D) (hn:D.length<=4000000) :
  Calls prog 89 #[v] w fun e w'=>∃ v',e=.returned (.tuple #[v',.int .i64 (eU D).2.1,.int .i64 (eU D).2.2])/\OwI w.heap.size w' v' (eU D).1/\w.grownBy w' none:=by
 obtain ⟨i0,hi,b0,b2,b1⟩:=info_parts aAp;obtain ⟨a,a1,rfl,hr⟩:=hv;have HV:Hid (RdB w.heap.size w (.slice a D.length a1) D):=⟨a,a1,rfl,hr⟩;clear hr
 go_enter func89,ntmps89
 go_wp2
 go_loopw [5,6] (fun v i wr=>∃ (k:Nat) (E:List Int),i=.int .i64 k/\OwI w.heap.size wr v E/\Mid D E k/\Below w.heap.size w wr)
  (fun _ i _=>D.length - (intOf i).toNat)
 case atStart=>exact ⟨0,[],rfl,ownsRow_nil _ _ _ _,Mid.start D,Below.refl _ _⟩
 case round=>
  obtain ⟨k,E,rfl,F,G,H⟩:=hrel;have c4:=G.1;have b8:=G.2.1;have HM:Hid (Mid D E k):=G;clear G
  by_cases S:k<D.length
  .obtain ⟨s,hs⟩:∃ s,s=D.drop k:=⟨_,rfl⟩;have HS:Hid (s=D.drop k):=hs;clear hs;have HR:Hid (RdB wr.heap.size wr (.slice a D.length a1) D):=HV.out.later (aC H);go_wp2
   go_loop [5,7,8] (fun o st i=>o=u5/\st=.int .i64 0/\∃ m:Nat,1<=m/\m<=5/\i=.int .i64 m/\Hid (∀ j,1<=j->j<m->hit s j=false))
    (fun _ _ i=>5 - (intOf i).toNat)
   case atStart=>exact ⟨rfl,rfl,1,by omega,by omega,rfl,fun j h1 h2=>by omega⟩
   case round=>
    obtain ⟨rfl,rfl,m,a4,b9,rfl,Y⟩:=hrel
    by_cases a3:m<=4
    .have N:=zD _ D k m wr HR.out a8 (by omega) S a4 a3;rw [<- HS.out] at N;have A:=N;clear N
     by_cases Z:0<=lv s m
     .cases hh:(cP (lv s m)==(m:Int))
      .have O:Hid (∀ j,1<=j->j<m+1->hit s j=false):=wG Y.out (by simp [hit,hh]);generalize lv s m=x at A Z hh
       go_wp2_with (first
        | (go_at_call 126;refine A.mono ?_;rintro e w' ⟨rfl,rfl⟩)
        | (go_at_call 122;refine (jZ _ _).mono ?_;rintro e w' ⟨rfl,rfl⟩))
       go_round
       case rel=>exact ⟨rfl,rfl,m+1,by omega,by omega,by go_num,O⟩
       case measure=>simp [intOf];omega
      .have a0:Hid (aJ s=m):=aEG a4 a3 Y.out (by simp [hit,hh,Z]);have c0:((m:Int)==0)=false:=by simp;omega
       have M:Hid (Mid D (E++[lv s m]) (k+m)):=by
        have h:=HM.out.step S (by rw [<- HS.out,a0.out];omega);rw [<- HS.out,a0.out] at h;exact h
       have c1:k+m<=D.length:=M.out.1;generalize lv s m=x at A Z hh M
       go_wp2_with (first
        | (go_at_call 126;refine A.mono ?_;rintro e w' ⟨rfl,rfl⟩)
        | (go_at_call 122;refine (jZ _ _).mono ?_;rintro e w' ⟨rfl,rfl⟩)
        | (at_builtin;refine wpList_append_own _ rfl _ _ 35 rfl w.heap.size 3 i0 (.int .i64 0) 1 8 underlying35 hi b0 b2 b1 rfl (by decide) _ _ _ rfl (ownsRow.alloc F _) ⟨wr.heap.size,0,none⟩ 1 1 [.int .i64 x] rfl rfl (cell_one_new _ _ _) (by intro u hu;simp at hu;subst hu;rfl) (by unfold maxLen;omega) (by omega) (by have:=H.size;simp;omega) ?_;intro v' w1 I J _))
       have R:=cG (xs:=[x]) _ H.size F I (by simp) J;clear I J F A;go_wp2
       go_roundw
       case rel=>exact ⟨k+m,E++[x],by go_num,R.1,M.out,H.trans R.2⟩
       case measure=>simp [intOf];omega
     .have O:Hid (∀ j,1<=j->j<m+1->hit s j=false):=wG Y.out (by simp [hit];omega);generalize lv s m=x at A Z;have c2:x<0:=by omega
      go_wp2_with (go_at_call 126;refine A.mono ?_;rintro e w' ⟨rfl,rfl⟩)
      go_round
      case rel=>exact ⟨rfl,rfl,m+1,by omega,by omega,by go_num,O⟩
      case measure=>simp [intOf];omega
    .have a0:Hid (aJ s=0):=aA7 (by omega) Y.out
     have HD:Hid (eU D=([],2,(k:Int))):=by
      refine HM.out.bad S ?_;rw [<- HS.out];exact a0.out
     go_wp2
     go_ret3
     exact ⟨_,by rw [HD.out];rfl,by rw [HD.out];exact ownsRow_nil _ _ _ _,aC H⟩
  .have HD:Hid (eU D=(E,0,0)):=HM.out.done S;go_wp2
   go_ret3
   exact ⟨_,by rw [HD.out];rfl,by rw [HD.out];exact F,aC H⟩
theorem kX (v h) (w:World) (E:RdB w.heap.size w v h) (A:Bys h) (J:h.length<=4000000) :
  Calls prog 49 #[v] w fun e S=>e=.returned (.int .i64 (aF h))/\w.grownBy S none:=by
 have hl:=aAy h
 by_cases G:(eU h).2.1=0
 .have H:Hid (aF h=((eU h).1.length:Int)):=by unfold Hid aF;rw [if_pos G]
  go_enter func49,ntmps49
  go_wp2_with fail
  refine (nE v h w E A J).mono ?_;rintro e O ⟨N,rfl,F,I⟩;obtain ⟨Z,M,D,_⟩:=F.rd;rw [D];clear D F E;go_wp2;go_ret;exact ⟨by rw [H.out];rfl,I⟩
 .have H:Hid (aF h = -1):=(by unfold Hid aF;rw [if_neg G]);have Y:((eU h).2.1 != 0)=true:=by simp [G]
  go_enter func49,ntmps49
  go_wp2_with fail
  refine (nE v h w E A J).mono ?_;rintro e O ⟨N,rfl,F,I⟩;clear F E G;go_wp2;go_ret;exact ⟨by rw [H.out];rfl,I⟩
theorem aCu (A:List Int):∀ (k:Nat),k<=A.length->(∀ j,k<=j->j<A.length->A[j]?.getD 0≠10)->(k=0\/A[k - 1]?.getD 0=10)->gN [] A=A.drop k:=by
 intro k M F J
 have E:10 ∉ A.drop k:=by
  intro h;obtain ⟨j,H,G⟩:=getElem_of_mem h;rw [getElem_drop] at G;rw [length_drop] at H;have:=F (k+j) (by omega) (by omega);rw [getElem?_eq_getElem (by omega)] at this;exact this G
 conv=>lhs;rw [<- take_append_drop k A]
 rw [nI];rcases Nat.eq_zero_or_pos k with rfl | I
 .rw [take_zero,drop_zero];rw [drop_zero] at E;simp only [gN];rw [oL E];simp
 .have D:A[k - 1]?.getD 0=10:=by rcases J with h | h;omega;exact h
  have e:A.take k=A.take (k - 1)++[10]:=by
   have:k - 1<A.length:=by omega
   conv=>lhs;rw [show k=(k - 1)+1 by omega]
   rw [dM A (k - 1) this,D]
  rw [e,nI];simp only [gN,if_true];rw [oL E];simp
theorem xI (v A) (w:World) (hv:RdB w.heap.size w v A) (hs:Sl v A.length) (J:Bys (gN [] A)) (hn:(gN [] A).length<=4000000) (hl:A.length<=1000000000) :
  Calls prog 48 #[v] w fun e w'=>e=.returned (.int .i64 (fJ A))/\w.grownBy w' none:=by
 have HV:=aB hv;obtain ⟨a,c3,a9,c6,c2⟩:=id hs;subst a9;clear hs;have HW:Hid (∀ (u:Value) (O:List Int),RdB w.heap.size w u O->Bys O->O.length<=4000000->_):=fun u O h1 h2 h3=>kX u O w h1 h2 h3;have Y:=aB J;have HN:=aB hn;clear hv J hn
 go_enter func48,ntmps48
 go_wp2
 go_loopw [3] (fun i W=>∃ (k:Nat),k<=A.length/\i=.int .i64 k/\w=W/\Hid (∀ j,k<=j->j<A.length->A[j]?.getD 0≠10)) (fun i _=>(intOf i).toNat)
 case atStart=>exact ⟨A.length,Nat.le_refl _,rfl,rfl,fun j h1 h2=>by omega⟩
 case round=>
  obtain ⟨k,hk,rfl,rfl,F⟩:=hrel
  by_cases h0:k=0
  .subst h0;have G:gN [] A=A:=(by have:=aCu A 0 (Nat.zero_le _) F.out (.inl rfl);simpa using this);have HC:=aB (HW.out _ A HV.out (by have:=Y.out;rw [G] at this;exact this) (by have:=HN.out;rw [G] at this;exact this));have HX:Hid (fJ A=aF A):=(by unfold Hid fJ;rw [G]);clear G
   go_wp2_with fail
   refine HC.out.mono ?_;rintro e w1 ⟨rfl,M⟩;go_wp2;go_ret;exact ⟨by rw [HX.out];rfl,M⟩
  .obtain ⟨b,D,ha,hb,hc⟩:∃ b D,a=some ⟨b,D,none⟩/\b<w.heap.size/\∀ j,j<A.length->w.cell? ⟨b,D+j,none⟩=some (.int .u8 (A[j]?.getD 0)):=by
    obtain ⟨a',b3,e,hr⟩:=HV.out;cases e;exact hr (fun e=>by rw [e] at hk;simp at hk;omega)
   subst ha;have c1:=hc (k - 1) (by omega)
   have Z:Hid (∀ (E:Addr) (I:Nat),(A.length - k=0\/E=⟨b,D+k,none⟩)->RdB w.heap.size w (.slice (some E) (A.length - k) I) (A.drop k)):=fun E I h=>by
    refine ⟨some E,I,by rw [length_drop],fun S=>?_⟩;have b7:0<A.length - k:=(by rw [<- length_drop];exact length_pos_iff.2 S);rcases h with h | h
    .omega
    .refine ⟨b,D+k,by rw [h],hb,fun j hj=>?_⟩;rw [length_drop] at hj;rw [Nat.add_assoc,hc (k+j) (by omega)];simp [getElem?_drop]
   have HT:Hid (A[k - 1]?.getD 0=10->gN [] A=A.drop k):=fun h=>aCu A k hk F.out (.inr h)
   have N:Hid (A[k - 1]?.getD 0≠10->∀ j,k - 1<=j->j<A.length->A[j]?.getD 0≠10):=fun h j h1 h2=>by
    by_cases hj:j=k - 1
    .rw [hj];exact h
    .exact F.out j (by omega) h2
   clear hc HV;generalize A[k - 1]?.getD 0=z at *
   by_cases H:z=10
   .subst H;have G:=HT.out rfl;have HX:Hid (fJ A=aF (A.drop k)):=(by unfold Hid fJ;rw [G]);have HC:Hid (∀ (E:Addr) (I:Nat),(A.length - k=0\/E=⟨b,D+k,none⟩)->Calls prog 49 #[.slice (some E) (A.length - k) I] w fun e w'=>e=.returned (.int .i64 (aF (A.drop k)))/\w.grownBy w' none):=fun E I h=>HW.out _ _ (Z.out E I h) (by have:=Y.out;rw [G] at this;exact this) (by have:=HN.out;rw [G] at this;exact this);clear G Z HT N F
    go_wp2_with fail
    .refine (HC.out _ _ (.inl (by omega))).mono ?_;rintro e w1 ⟨rfl,M⟩;go_wp2;go_ret;exact ⟨by rw [HX.out];rfl,M⟩
    .refine (HC.out _ _ (.inr rfl)).mono ?_;rintro e w1 ⟨rfl,M⟩;go_wp2;go_ret;exact ⟨by rw [HX.out];rfl,M⟩
   .have S:(z != 10)=true:=(by simpa using H);go_wp2;exact ⟨⟨k - 1,by omega,by congr 1;omega,trivial,N.out H⟩,by simp [intOf];omega⟩
end Go.Proofs.YtckcaefnokeodaaGreatDoor
