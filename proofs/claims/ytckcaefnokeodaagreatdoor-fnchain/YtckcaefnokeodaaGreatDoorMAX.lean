import Derived.Test.YtckcaefnokeodaaGreatDoorMAW
set_option maxHeartbeats 16000000
set_option maxRecDepth 100000
namespace Go.Proofs.YtckcaefnokeodaaGreatDoor
open Go.Proofs.Tryz Go.RowKit List World
section
attribute [-go_sem] Builtin.append_
theorem DoR.sh {B w v A} (h:DoR B w v A):∃ a n c,v=.slice a n c:=by
 obtain ⟨a,c,e,_⟩:=h.sl;exact ⟨a,_,c,e⟩
theorem PoR.sh {B w v A} (h:PoR B w v A):∃ a n c,v=.slice a n c:=by
 obtain ⟨a,c,e,_⟩:=h.sl;exact ⟨a,_,c,e⟩
theorem Ow.sh {q t B w v A} (h:Ow q t B w v A):∃ a n c,v=.slice a n c:=by
 obtain ⟨a,c,e,_⟩:=h.sl;exact ⟨a,_,c,e⟩
theorem Bw.sh {B w v A} (h:Bw B w v A):∃ a n c,v=.slice a n c:=by
 obtain ⟨a,c,e,_⟩:=h.sl;exact ⟨a,_,c,e⟩
theorem wF (K:Int) (mem:Bool) (o cl ed:Int) (i0:(K=5/\mem=false/\o=91/\cl=93/\ed=3)\/(K=6/\mem=true/\o=123/\cl=125/\ed=2)) (t) (A:Int) (hD:kU t) (d:Nat) (hd:d<=202) (IH:∀ (j:Nat) (R2:List Nod) (m:Bool) (nv tv:Value) (w:World),j<t.N.length->aE bD d m (t.N.drop j,())=some (R2,())->eV w.heap.size w nv tv t->
   Calls prog 42 #[.agg #[nv,tv],.int .i64 j,.int .i64 A] w fun e w'=>∃ v',e=.returned v'/\PoR w.heap.size w' v' (aH A d (t.N.drop j)).1/\w.grownBy w' none) (i:Nat) (hi:i<t.N.length) (hk:t.N[i].k=K) (B1:0<t.N[i].C) (R2:List Nod) (hw:aN (aE bD d mem) t.N[i].C.toNat (t.N.drop (i+1),())=some (R2,())) (nv tv) (w:World) (hv:eV w.heap.size w nv tv t) :
  Calls prog 42 #[.agg #[nv,tv],.int .i64 i,.int .i64 A] w fun e w'=>∃ v',e=.returned v'/\PoR w.heap.size w' v' (lD A t.N[i] (itK (aH A d) t.N[i].C.toNat (t.N.drop (i+1))))/\w.grownBy w' none:=by
 have l9:=aB (aAH t A d mem (i+1) t.N[i].C.toNat R2 hw (fun p H h5=>((hD.nd p H).2.2.2.2.2.2.2.2.2.1 h5).1));have t1:Hid (∀ a,a<t.N.length->∀ R3,aE bD d mem (t.N.drop a,())=some (R3,())->∀ h:a<t.N.length,t.N[a].mem=mem):=fun a ha R3 h3 h=>aAq t d mem a R3 h3 h;have HV:=aB hv;have D8:=aB IH;have B0:=hD.len;clear hw IH;obtain ⟨m6,z8⟩:=id hv;have HD:=aB hD;obtain ⟨na,M,G0,_⟩:=id m6;obtain ⟨ta,I,H8,_⟩:=id z8;obtain ⟨b,O,J9,lv,kv,xv,uv,qv,m1,V5,H⟩:=m6.at i hi;have t8:=Nat.le_trans (oC _ _ (getElem_mem hi)) hD.wt;have H1:=hD.cn _ (getElem_mem hi);have i7:wC t.N[i].tail<=2000000:=(by have:=t8;unfold wN at this;omega);have z0:=H.k;have z1:=H.L;have z2:=H.mem;have z3:=H.key;have z4:=H.X;have z5:=H.U;have z6:=H.C;have z7:=H.tail;have t4:=aB H.rt;obtain ⟨la,u8,m7,_,_⟩:=H.rl.sl;obtain ⟨qa,b0,D1,_,_⟩:=H.rt.sl;obtain ⟨ka,r8,k6,_,_⟩:=H.sk;obtain ⟨xa,u6,E7,_,_⟩:=H.sx;obtain ⟨ua,q4,E2,_,_⟩:=H.su;subst m7 D1 k6 E7 E2 m1 H8;cases G0;clear m6 z8 hv H;generalize t.N[i]=p at *;obtain ⟨wA,d1⟩:∃ wA,wA=w.alloc (Obj.cells #[.slice (some ⟨b,O,none⟩) t.N.length M,.slice ta t.tail.length I] 26):=⟨_,rfl⟩;have gA:w.grownBy wA none:=(by rw [d1];exact gWA);have s9:=gA.cell z0 (by simp);have E4:=gA.cell z1 (by simp);have G4:=gA.cell z2 (by simp);have F1:=gA.cell z3 (by simp);have F0:=gA.cell z4 (by simp);have C5:=gA.cell z5 (by simp);have y8:=gA.cell z6 (by simp);have D9:=gA.cell z7 (by simp);have sA:wA.heap.size=w.heap.size+1:=(by rw [d1];simp);clear z0 z1 z2 z3 z4 z5 z6 z7;rw [hk] at s9;obtain ⟨c,hc⟩:∃ c:Nat,p.C=(c:Int):=⟨p.C.toNat,by omega⟩;have p0:p.C.toNat=c:=(by omega);rw [p0] at l9 ⊢;rw [hc] at y8 H1 B1;have U6:0<c:=(by omega);have V1:((c:Int)==0)=false:=(by simp;omega);have C8:(o=91\/o=123)/\(cl=93\/cl=125):=(by rcases i0 with h | h<;>simp [h]);obtain ⟨TO,i1⟩:∃ T,T=aI [o]:=⟨_,rfl⟩;obtain ⟨TC,h7⟩:∃ T,T=aI [cl]:=⟨_,rfl⟩;obtain ⟨LE,d6⟩:∃ T,T=aM ed:=⟨_,rfl⟩;obtain ⟨IN,l2⟩:∃ T,T=pU K:=⟨_,rfl⟩;have y2:=aB (show lD A p (itK (aH A d) c (t.N.drop (i+1)))=eR [TO,iE A (IN (itK (aH A d) c (t.N.drop (i+1))) p.tail),LE,TC]++[⟨8,[],0⟩] by unfold lD;rw [if_neg (by omega),hk,i1,h7,d6,l2];rcases i0 with ⟨rfl,_,rfl,rfl,rfl⟩ | ⟨rfl,_,rfl,rfl,rfl⟩<;>rfl);have d9:Hid (∀ xs ys,(LE::xs)++[aI [44]++aM 0++[(⟨9,[],0⟩:Pc)]]++cW ys=IN xs ys):=fun xs ys=>by rw [d6,l2];rcases i0 with ⟨rfl,_,rfl,rfl,rfl⟩ | ⟨rfl,_,rfl,rfl,rfl⟩<;>simp [pU,aEm,aI,aM,oV]
 have z9:Hid (mes TO=2/\mes TC=2/\mes LE=1):=(by rw [i1,h7,d6];exact ⟨rfl,rfl,rfl⟩);obtain ⟨D,E⟩:∃ D,D=(wA.alloc (Obj.cells #[.int .i64 K,.slice la p.L.length u8,.bool p.mem,.slice ka p.key.length r8,.slice xa p.X.length u6,.slice ua p.U.length q4,.int .i64 c,.slice qa p.tail.length b0] 49)).alloc (Obj.cells #[.string { data:=#[110,117,108,108] },.string { data:=#[116,114,117,101] },.string { data:=#[102,97,108,115,101] }] 9):=⟨_,rfl⟩;have gg:w.grownBy D none:=(by rw [E];exact aA gA (aA gWA gWA));have T7:D.heap.size=w.heap.size+3:=(by rw [E];simp [sA]);have GG:=aB gg;have y0:D.cell? ⟨w.heap.size,0,none⟩=some (.slice (some ⟨b,O,none⟩) t.N.length M):=(by rw [E,d1];simp [go_sem]);have y1:D.cell? ⟨w.heap.size,1,none⟩=some (.slice ta t.tail.length I):=(by rw [E,d1];simp [go_sem]);have y6:D.cell? ⟨w.heap.size+1,6,none⟩=some (.int .i64 c):=(by rw [E,<- sA];simp [go_sem]);have y7:D.cell? ⟨w.heap.size+1,7,none⟩=some (.slice qa p.tail.length b0):=(by rw [E,<- sA];simp [go_sem]);have Y:=aB (show _/\_/\_/\_ from ⟨y0,y1,y6,y7⟩);have n0:Hid (∀ W:World,_):=fun W=>eC [o] (by intro z hz;simp at hz;omega) (by simp) W;have k0:Hid (∀ W:World,_):=fun W=>eC [cl] (by intro z hz;simp at hz;omega) (by simp) W;have s7:Hid (∀ W:World,_):=fun W=>eC [44] (by intro z hz;simp at hz;omega) (by simp) W;have k2:Hid (∀ W:World,_):=fun W=>fH ed W;rw [<- i1] at n0;rw [<- h7] at k0;rw [<- d6] at k2;have E1:Hid (∀ W:World,_):=fun W=>fH 0 W;have E0:Hid (∀ W:World,_):=fun W=>fH 2 W;have x4:=aB ((t4.out.K gg).wide gg.size);have S8:=nF p.tail;have p4:=aB i7;have HX:=aB (k2.out D);clear gA gg t4 i7 t8 y0 y1 y6 y7 hc p0 i1 h7 d6 l2 C8 hk;subst d1;have D7:=aB E;rw [E] at HX;clear E;rcases i0 with ⟨rfl,rfl,rfl,rfl,rfl⟩ | ⟨rfl,rfl,rfl,rfl,rfl⟩
 all_goals
  go_enter func42,ntmps42
  go_wp2_with fail
  refine HX.out.mono ?_;rintro e w4 ⟨v4,rfl,o4,g4⟩;have E:=D7.out;rw [<- E] at o4 g4;clear E;obtain ⟨v5,w5,M5,o5,g5,_⟩:=(DoR.nil D.heap.size D).push g4 o4 (Nat.le_refl _) (by simp);obtain ⟨a5,L5,c5,F3⟩:=o5.sh;obtain ⟨a4,L4,c4,f9⟩:=o4.sh;have G5:Hid (Below D.heap.size D w5):=aV (bC (grownBy.refl _ _) g5 (fun j e=>by cases e));have B3:=aB o5;subst f9 F3;clear HX o4 o5 g4 g5 s9 E4 G4 F1 F0 C5 y8 D9;go_wp2
  go_loopw [14,16,17] (fun r B2 k W=>∃ (j:Nat),j<=c/\k=.int .i64 j/\B2=.int .i64 ((t.N.length - (bE (aH A d) j (t.N.drop (i+1))).length:Nat):Int)/\DoR D.heap.size W r (LE::itK (aH A d) j (t.N.drop (i+1)))/\Below D.heap.size D W)
   (fun _ _ k _=>c - (intOf k).toNat)
  case atStart=>
   refine ⟨0,Nat.zero_le _,rfl,?_,B3.out,G5.out⟩;simp only [bE,length_drop];congr 1;omega
  case round=>
   obtain ⟨j,hj,rfl,rfl,ho,F⟩:=hrel;obtain ⟨a,ha,r5,r2,V8,k1⟩:=l9.out j hj;have F2:=HD.out.wt;rw [<- r2];clear r2;have U3:=dH (itK (aH A d) j (t.N.drop (i+1)));have h8:=F.size;obtain ⟨y0,y1,y6,y7⟩:=Y.out;have x0:wr.cell? ⟨w.heap.size,0,none⟩=some (.slice (some ⟨b,O,none⟩) t.N.length M):=(by rw [F.cell (by simp;omega)];exact y0);have x1:wr.cell? ⟨w.heap.size,1,none⟩=some (.slice ta t.tail.length I):=(by rw [F.cell (by simp;omega)];exact y1);have x6:wr.cell? ⟨w.heap.size+1,6,none⟩=some (.int .i64 c):=(by rw [F.cell (by simp;omega)];exact y6);have x7:wr.cell? ⟨w.heap.size+1,7,none⟩=some (.slice qa p.tail.length b0):=(by rw [F.cell (by simp;omega)];exact y7);clear y0 y1 y6 y7;have HO:=aB ho;have HB:=aB F;obtain ⟨ra,rc,D5,_,_⟩:=ho.sl;generalize h0:(LE::itK (aH A d) j (t.N.drop (i+1))).length=LL at *;have J4:LL<=2000001:=(by rw [<- h0,length_cons];omega);subst D5;clear ho F
   by_cases H4:j<c
   .obtain ⟨a0,h4⟩:=k1 H4;obtain ⟨b',J3,B4,lv,kv,xv,uv,qv,m1,O3,hq⟩:=HV.out.1.at a a0;cases m1;have f1:=t1.out a a0 _ h4 a0;have k3:=Nat.le_trans (oC _ _ (getElem_mem a0)) F2;have W1:wC t.N[a].L<=2000000:=(by have:=k3;unfold wN at this;omega);have T0:6*t.N[a].key.length<=2000000:=(by have:=k3;unfold wN at this;omega);have N8:=aAd t.N[a].key;have G:=GG.out;have C1:Hid (RdC D.heap.size D lv t.N[a].L):=(hq.rl.K G).wide G.size;have H5:Hid (RdI D.heap.size D kv t.N[a].key):=(hq.rk.K G).wideC G.size;have q1:=G.cell hq.L (by simp);have q2:=G.cell hq.mem (by simp);have q3:=G.cell hq.key (by simp);have k8:b<D.heap.size:=(by omega);obtain ⟨B7,k5,m7,_,_⟩:=hq.rl.sl;obtain ⟨B9,k4,k6,_,_⟩:=hq.sk;have r4:t.N.drop a=t.N[a]::t.N.drop (a+1):=drop_eq_getElem_cons a0;have y5:=aB (show jF (aH A d) (bE (aH A d) j (t.N.drop (i+1)))=bT t.N[a].L++(mK t.N[a]++[(aH A d (t.N.drop a)).1]) by rw [r5,r4];rfl);have T4:(mK t.N[a]).length<=1:=(by unfold mK;split<;>simp);have y4:Hid (∀ W:World,Below D.heap.size D W->eV W.heap.size W (.slice (some ⟨b,O,none⟩) t.N.length M) (.slice ta t.tail.length I) t):=fun W g=>xX (HV.out.1.K G) (HV.out.2.K G) G.size g;have q8:Hid (∀ W:World,Below D.heap.size D W->_):=fun W (g:Below D.heap.size D W)=>D8.out a _ _ _ _ W a0 h4 (y4.out W g);have x3:Hid (∀ W:World,Below D.heap.size D W->_):=fun W (g:Below D.heap.size D W)=>uQ t (by omega) (fun p H h5=>((HD.out.nd p H).2.2.2.2.2.2.2.2.2.1 h5).1) HD.out.cn d a _ _ hd a0 h4 _ _ W (y4.out W g);subst m7 k6;have W8:=jL t.N[a].L;have J7:=dH (bT t.N[a].L)
    have i3:=(fun (m:Bool) (hm:t.N[a].mem=m)=>aB (show ∀ W:World,Below D.heap.size D W->W.cell? ⟨b,O+a*8+1,none⟩=some (.slice B7 t.N[a].L.length k5)/\W.cell? ⟨b,O+a*8+2,none⟩=some (.bool m)/\W.cell? ⟨b,O+a*8+3,none⟩=some (.slice B9 t.N[a].key.length k4)/\W.cell? ⟨w.heap.size,0,none⟩=some (.slice (some ⟨b,O,none⟩) t.N.length M)/\W.cell? ⟨w.heap.size,1,none⟩=some (.slice ta t.tail.length I) from
     fun W g=>⟨by rw [g.cell (by simpa using k8)];exact q1,by rw [g.cell (by simpa using k8),<- hm];exact q2,by rw [g.cell (by simpa using k8)];exact q3,by rw [g.cell (by simp;omega)];exact Y.out.1,by rw [g.cell (by simp;omega)];exact Y.out.2.1⟩)) _ f1
    have C6:=aB (show itK (aH A d) (j+1) (t.N.drop (i+1))=itK (aH A d) j (t.N.drop (i+1))++((if j=0 then [] else [aI [44],aM 2])++jF (aH A d) (bE (aH A d) j (t.N.drop (i+1)))) from rfl);clear hq q1 q2 q3 h4 k1 r4 k3 r5;generalize t.N[a]=nd at *;generalize (aH A d (t.N.drop a)).1=vd at *;generalize r6:bE (aH A d) (j+1) (t.N.drop (i+1))=RN at *;have C0:=aB r6;clear r6;obtain ⟨S0,k9⟩:∃ S0,S0=LE::itK (aH A d) j (t.N.drop (i+1))++(if j=0 then [] else [aI [44],aM 2]):=⟨_,rfl⟩;have V7:S0.length<=2000003:=(by rw [k9,length_append,h0];split<;>simp<;>omega);have j9:=aB k9;clear k9
    by_cases m4:j=0
    all_goals first
     | ((have M7:j=0:=m4)
        have R7:¬ (0:Int)<j:=(by omega);have n1:Hid (DoR D.heap.size wr (.slice ra LL rc) S0):=(by rw [j9.out,if_pos m4,append_nil];exact HO.out);have f7:=HB;clear HO)
     | ((have S1:(0:Int)<j:=by omega)
        go_wp2_with fail
        refine (s7.out _).mono ?_;rintro e w1 ⟨v1,rfl,o1,g1⟩;obtain ⟨v2,w2,N0,o2,g2,_⟩:=HO.out.push g1 o1 h8 (by omega);obtain ⟨a1,L1,c1,l5⟩:=o1.sh;obtain ⟨a2,L2,c2,n2⟩:=o2.sh;have t6:Below D.heap.size wr w2:=(Below.refl _ _).grown g2 h8 (fun x e=>(HO.out.lt x e).1);have t7:=aB (HB.out.trans t6);have j6:=t7.out.size;have k7:=aB o2;subst l5 n2;clear o1 o2 g1 g2 t6 x0 x1 x6 x7
        go_wp2_with fail
        refine (E0.out _).mono ?_;rintro e w3 ⟨v3,rfl,o3,g3⟩;obtain ⟨v4,b4,y9,o4,g4,_⟩:=k7.out.push g3 o3 j6 (by rw [length_append,h0];simp;omega);obtain ⟨a3,L3,c3,l7⟩:=o3.sh;obtain ⟨a4,L4,c4,f9⟩:=o4.sh;have b7:Below D.heap.size w2 b4:=(Below.refl _ _).grown g4 j6 (fun x e=>(k7.out.lt x e).1);have b8:=aB (t7.out.trans b7);have i5:=b8.out.size;have A0:=aB o4;subst l7 f9;clear o3 o4 g3 g4 b7 HO k7;have n1:Hid (DoR D.heap.size b4 (.slice a4 L4 c4) S0):=(by unfold Hid;rw [j9.out,if_neg m4];simpa using A0.out);have f7:=b8;clear A0)
    all_goals
     obtain ⟨u1,u2,u3,_,_⟩:=i3.out _ f7.out;have t3:=f7.out.size;have s1:=aB (qE _ _ _ nd.L D.heap.size _ n1.out t3 (dY C1.out f7.out) (by omega) (by omega))
     go_wp2_with fail
     refine s1.out.mono ?_;rintro e p5 ⟨l0,rfl,b9,b5⟩;have S:=aB (f7.out.trans b5);have J:=S.out.size;have b1:=aB b9;obtain ⟨q0,C3,u9,f8⟩:=b9.sh;have T5:(S0++bT nd.L).length<=5000000:=(by rw [length_append];omega);subst f8;obtain ⟨f5,d8,f4,d5,d2⟩:=i3.out p5 S.out;clear b9 b5 s1 n1
     first
      | ((have j8:mK nd=[aI (iT nd.key++[58,32])]:=by unfold mK;rw [f1];rfl)
         have HK:=aB (yJ _ _ p5 (lR H5.out S.out (Nat.le_refl _)) (by omega))
         go_wp2_with fail
         refine HK.out.mono ?_;rintro e p6 ⟨v6,rfl,o6,g6⟩;obtain ⟨v7,p7,w0,o7,g7⟩:=uP p5.heap.size p6 v6 _ [58,32] o6 (by intro z hz;simp at hz;omega) (by simp) g6.size (by simp;omega);rw [show strOfNums [58,32] = { data:=#[58,32] } by rfl] at w0;have G7:=aB (bC g6 g7 (fun x e=>(o6.lt x e).1));have q5:=aB (lP v7 _ p7 o7.rd (by simp;omega));obtain ⟨a6,L6,c6,d0⟩:=o6.sh;obtain ⟨a7,L7,c7,m5⟩:=o7.sh;subst d0 m5;clear o6 o7 g6 g7 HK f5 d8 f4 d5 d2
         go_wp2_with fail
         refine q5.out.mono ?_;rintro e p8 ⟨v8,rfl,o8,g8⟩;obtain ⟨v9,p9,N3,o9,g9,_⟩:=b1.out.push (aA G7.out g8) (o8.base G7.out.size) J (by omega);obtain ⟨a8,L8,c8,l1⟩:=o8.sh;obtain ⟨a9,L9,c9,m3⟩:=o9.sh;have q9:Below D.heap.size p5 p9:=(Below.refl _ _).grown g9 J (fun x e=>(b1.out.lt x e).1);have d7:=aB (S.out.trans q9);have f3:=d7.out.size;have h6:Hid (DoR D.heap.size p9 v9 (S0++bT nd.L++mK nd)):=(by rw [j8];exact o9);subst l1 m3;clear o8 o9 g8 g9 q9 G7 q5 b1)
      | ((have j8:mK nd=[]:=by unfold mK;rw [f1];rfl)
         have h6:Hid (DoR D.heap.size p5 (.slice q0 C3 u9) (S0++bT nd.L++mK nd)):=(by rw [j8,append_nil];exact b1.out);have d7:=S;have f3:=J)
     obtain ⟨f5,d8,f4,d5,d2⟩:=i3.out _ d7.out;have t2:=aB (q8.out _ d7.out)
     go_wp2_with fail
     refine t2.out.mono ?_;rintro e T8 ⟨P9,rfl,m0,b3⟩;obtain ⟨s2,p3,E8,Z,f0,_⟩:=h6.out.push b3 m0 f3 (by rw [length_append];omega);obtain ⟨R0,V4,U0,t0⟩:=m0.sh;obtain ⟨t5,r9,r0,f6⟩:=Z.sh;have b2:=aB (d7.out.trans ((Below.refl _ _).grown f0 f3 (fun x e=>(h6.out.lt x e).1)));have m2:=b2.out.size;have j5:=aB Z;subst t0 f6;clear m0 Z b3 f0 t2 h6 f5 d8 f4 d5 d2;obtain ⟨f5,d8,f4,d5,d2⟩:=i3.out p3 b2.out;have u0:=aB (x3.out p3 b2.out)
     go_wp2_with fail
     refine u0.out.mono ?_;rintro e H6 ⟨rfl,b6⟩;have y3:=aB (b2.out.grown b6 m2 (fun x e=>by cases e))
     have d3:Hid (DoR D.heap.size H6 (.slice t5 r9 r0) (LE::itK (aH A d) (j+1) (t.N.drop (i+1)))):=by
      unfold Hid;rw [C6.out,y5.out];have j7:=j5.out.K b6;rw [j9.out] at j7;simpa using j7
     clear j5 u0 b6 f5 d8 f4 d5 d2;go_wp2
     go_roundw
     case rel=>exact ⟨j+1,by omega,by go_num,by rw [C0.out],d3.out,y3.out⟩
     case measure=>simp [intOf];omega
   .have H7:j=c:=(by omega);subst H7;clear k1 t1 l9;have T6:=aB HB.out
    go_wp2_with fail
    refine (s7.out _).mono ?_;rintro e w1 ⟨v1,rfl,o1,g1⟩;have x5:=aB o1;have G1:=aB g1;obtain ⟨a1,L1,c1,l5⟩:=o1.sh;subst l5;clear o1 g1 x0 x1 x6
    go_wp2_with fail
    refine (E1.out _).mono ?_;rintro e w2 ⟨v2,rfl,o2,g2⟩;have x2:=aB (aHs 9 _ v2 _ _ wr.heap.size w2 (x5.out.K g2).pi (o2.base G1.out.size).pi (by simp [aI,mes]) (by simp [aM,mes]));have G2:=aB (aA G1.out g2);obtain ⟨a2,L2,c2,n2⟩:=o2.sh;subst n2;clear o2 g2 x5 G1
    go_wp2_with fail
    refine x2.out.mono ?_;rintro e w3 ⟨v3,rfl,o3,g3⟩;obtain ⟨v4,b4,y9,o4,g4,_⟩:=HO.out.push (aA G2.out g3) (o3.base G2.out.size) h8 (by omega);obtain ⟨a3,L3,c3,l7⟩:=o3.sh;obtain ⟨a4,L4,c4,f9⟩:=o4.sh;have b7:Below D.heap.size wr b4:=(Below.refl _ _).grown g4 h8 (fun x e=>(HO.out.lt x e).1);have b8:=aB (HB.out.trans b7);have i5:=b8.out.size;have S7:b4.cell? ⟨w.heap.size+1,7,none⟩=some (.slice qa p.tail.length b0):=(by rw [b7.cell (by simp;omega)];exact x7);have p2:=aB (rR _ _ _ p.tail D.heap.size b4 o4 i5 (dY x4.out b8.out) (by have:=p4.out;omega) (by rw [length_append,h0];simp;omega));subst l7 f9;clear o3 o4 g3 g4 b7 G2 x2 HO x7
    go_wp2_with fail
    refine p2.out.mono ?_;rintro e p5 ⟨l0,rfl,b9,b5⟩;have S:=aB (b8.out.trans b5);have J:=S.out.size
    have H9:bW (IN (itK (aH A d) j (t.N.drop (i+1))) p.tail)<=4100000:=by
     have:=p4.out;have hL:=z9.out.2.2;rw [<- d9.out];simp only [bW,cS,aI,aM,mes,fM,length_cons,length_nil];omega
    have o5:DoR D.heap.size p5 l0 (IN (itK (aH A d) j (t.N.drop (i+1))) p.tail):=(by rw [<- d9.out];exact b9);have HR:=aB (kE l0 _ _ p5 o5.di J (by omega));have V9:=lU (IN (itK (aH A d) j (t.N.drop (i+1))) p.tail);obtain ⟨q0,L5,u9,f8⟩:=o5.sh;generalize V2:IN (itK (aH A d) j (t.N.drop (i+1))) p.tail=NN at *;subst f8;clear o5 b9 b5 p2 d9
    go_wp2_with fail
    refine HR.out.mono ?_;rintro e p6 ⟨v6,rfl,o6,g6⟩;have HN:=aB (vJ 7 A v6 _ _ p6 o6.pi (by omega));have GA:Hid (w.grownBy p6 none):=aA (aA GG.out (aC S.out)) g6;obtain ⟨a6,L6,c6,d0⟩:=o6.sh;subst d0;clear o6 g6 HR
    go_wp2_with fail
    refine HN.out.mono ?_;rintro e p7 ⟨v7,rfl,o7,g7⟩;have G6:=aB (aA GA.out g7);have u4:=aB (o7.base (B':=w.heap.size) GA.out.size);obtain ⟨a6,L6,c6,d0⟩:=o7.sh;subst d0;clear o7 g7 HN
    go_wp2_with fail
    refine (n0.out _).mono ?_;rintro e w7 ⟨v7,rfl,o7,g7⟩;have G7:=aB (aA G6.out g7);have u7:=aB (o7.base (B':=w.heap.size) G6.out.size);have i8:=aB (u4.out.K g7);obtain ⟨a7,L7,c7,m5⟩:=o7.sh;subst m5;clear o7 g7 n0 u4
    go_wp2_with fail
    refine (k2.out _).mono ?_;rintro e w8 ⟨v8,rfl,o8,g8⟩;have G8:=aB (aA G7.out g8);have s5:=aB (o8.base (B':=w.heap.size) G7.out.size);have f2:=aB (i8.out.K g8);have j3:=aB (u7.out.K g8);obtain ⟨a8,L8,c8,l1⟩:=o8.sh;subst l1;clear o8 g8 i8 u7
    go_wp2_with fail
    refine (k0.out _).mono ?_;rintro e w9 ⟨v9,rfl,o9,g9⟩;have G9:=aB (aA G8.out g9);obtain ⟨a9,L9,c9,m3⟩:=o9.sh;have r1:=aDu w.heap.size w9 _ _ _ _ _ _ _ _ G9.out.size (j3.out.K g9).pi (f2.out.K g9).pi (s5.out.K g9).pi (o9.base (B':=w.heap.size) G8.out.size).pi
    have W4:bW [TO,eR NN++[(⟨7,[],A⟩:Pc)],LE,TC]<=4190000:=by
     obtain ⟨h1,h2,h3⟩:=z9.out;simp only [bW,fM,mes,length_nil];omega
    have b3:=grownBy_alloc w9 (Obj.cells #[.slice a7 L7 c7,.slice a6 L6 c6,.slice a8 L8 c8,v9] 31) none;have HF:=aB (kE _ _ w.heap.size _ r1 (by have:=(aA G9.out b3).size;exact this) (by omega));have F9:=aB (aA G9.out b3);have O1:=lU [TO,eR NN++[(⟨7,[],A⟩:Pc)],LE,TC];subst m3;clear o9 g9 k0 f2 j3 s5 r1 b3
    go_wp2_with fail
    refine HF.out.mono ?_;rintro e I1 ⟨s2,rfl,Z,f0⟩;have HU:=aB (vJ 8 0 s2 _ _ I1 Z.pi (by omega));have r3:=aB (aA F9.out f0);obtain ⟨t5,r9,r0,f6⟩:=Z.sh;subst f6;clear Z f0 HF
    go_wp2_with fail
    refine HU.out.mono ?_;rintro e U7 ⟨V3,rfl,l8,b6⟩;have d3:=aB (l8.base (B':=w.heap.size) r3.out.size);have F5:=aB (aA r3.out b6);obtain ⟨R6,T2,U5,q6⟩:=l8.sh;subst q6;clear l8 b6 HU;go_wp2;go_ret;refine ⟨_,rfl,?_,F5.out⟩;rw [y2.out];unfold iE;exact d3.out
theorem oF (t) (h:Int) (H:kU t):∀ (d:Nat),d<=202->∀ (j:Nat) (G:List Nod) (m:Bool) (D E:Value) (w:World),j<t.N.length->aE bD d m (t.N.drop j,())=some (G,())->eV w.heap.size w D E t->
  Calls prog 42 #[.agg #[D,E],.int .i64 j,.int .i64 h] w fun e w'=>∃ Z,e=.returned Z/\PoR w.heap.size w' Z (aH h d (t.N.drop j)).1/\w.grownBy w' none
 | 0,_,j,G,m,D,E,w,_,hw,_=>by simp [aE] at hw
 | d+1,hd,j,G,m,D,E,w,hj,hw,hv=>by
   have M:t.N.drop j=t.N[j]::t.N.drop (j+1):=drop_eq_getElem_cons hj;have J:=H.nd _ (getElem_mem hj)
   by_cases S:t.N[j].k<5
   .rw [M];simp only [aH,if_pos S];exact aDk t h H j hj S D E w hv
   .rw [M] at hw ⊢;simp only [aH,if_neg S];have a2:=J.1.2;have hc:=J.2.2.2.2.2.2.2.2.2.2
    by_cases F:t.N[j].C=0
    .unfold lD;rw [if_pos F]
     by_cases I:t.N[j].tail=[]
     .rw [if_pos I];rcases (show t.N[j].k=5\/t.N[j].k=6 by omega) with A | A
      .rw [A];exact aBF t h H j hj A F I D E w hv
      .rw [A];exact aBW t h H j hj A F I D E w hv
     .rw [if_neg I];rcases (show t.N[j].k=5\/t.N[j].k=6 by omega) with A | A
      .rw [A];exact aBR t h H j hj A F I D E w hv
      .rw [A];exact aBN t h H j hj A F I D E w hv
    .have O:aN (aE bD d (decide (t.N[j].k=6))) t.N[j].C.toNat (t.N.drop (j+1),())=some (G,()):=by
      by_cases Y:t.N[j].mem≠m
      .simp [aE,Y] at hw
      .by_cases h0:5<=t.N[j].k/\d=0
       .simp [aE,Y,h0,bD] at hw
       .simpa only [aE,if_neg Y,if_neg h0,bD,Option.bind_some] using hw
     rcases (show t.N[j].k=5\/t.N[j].k=6 by omega) with A | A
     .rw [A] at O;exact wF 5 false 91 93 3 (.inl ⟨rfl,rfl,rfl,rfl,rfl⟩) t h H d (by omega) (fun j G m D E w a b c=>oF t h H d (by omega) j G m D E w a b c) j hj A (by omega) G (by simpa using O) D E w hv
     .rw [A] at O;exact wF 6 true 123 125 2 (.inr ⟨rfl,rfl,rfl,rfl,rfl⟩) t h H d (by omega) (fun j G m D E w a b c=>oF t h H d (by omega) j G m D E w a b c) j hj A (by omega) G (by simpa using O) D E w hv
theorem aHn (t) (E:Int) (hD:kU t) (l0:wNs t.N+wC t.tail<=3000000) (hw:aE bD 201 false (t.N,())=some ([],())) (nv tv) (w:World) (hv:eV w.heap.size w nv tv t) :
  Calls prog 17 #[.agg #[nv,tv],.int .i64 E] w fun e w'=>∃ v',e=.returned v'/\PoR w.heap.size w' v' (eM E t)/\w.grownBy w' none:=by
 have h0:0<t.N.length:=by
  rcases hh:t.N with _ | ⟨n,R⟩
  .rw [hh] at hw;simp [aE] at hw
  .simp
 have h4:t.N=t.N[0]::t.N.drop 1:=by
  have:=drop_eq_getElem_cons h0;simpa using this
 have g9:=aB (show eM E t=eR (bT t.N[0].L++((aH E 201 t.N).1::aM 4::bT t.tail)) by
  unfold eM
  split
  .rename_i h;rw [h] at h0;simp at h0
  .rename_i n R h
   simp only [h,getElem_cons_zero])
 have l1:mes (aH E 201 t.N).1+wC t.N[0].L<=wNs t.N:=by
  obtain ⟨n,P,hP,hm⟩:=tF E 201 false t.N [] hw (fun p hp h5=>((hD.nd p hp).2.2.2.2.2.2.2.2.2.1 h5).1);have hn:t.N[0]=n:=(by simp only [hP,getElem_cons_zero]);have hs:wNs t.N=wN n+wNs P:=(by rw [hP];simp [wNs]);rw [hn,hs];omega
 obtain ⟨I,J⟩:=id hv;obtain ⟨na,d4,f7,_⟩:=id I;obtain ⟨ta,O,h7,_⟩:=id J;obtain ⟨b,g2,i4,lv,kv,xv,uv,qv,h9,l2,hp⟩:=I.at 0 h0;obtain ⟨D,A⟩:∃ D,D=w.alloc (Obj.cells #[nv,tv] 26):=⟨_,rfl⟩;have F:w.grownBy D none:=(by rw [A];exact gWA);have GG:=aB F;have z1:=F.cell hp.L (by simp);have y0:D.cell? ⟨w.heap.size,0,none⟩=some nv:=(by rw [A];simp [go_sem]);have y1:D.cell? ⟨w.heap.size,1,none⟩=some tv:=(by rw [A];simp [go_sem]);have sW:D.heap.size=w.heap.size+1:=(by rw [A];simp);have Z:=aB (qE (.slice none 0 0) lv [] t.N[0].L D.heap.size D (DoR.nil _ _) (Nat.le_refl _) ((hp.rl.K F).wide F.size) (by omega) (by simp));have f2:=aB ((J.K F).wide F.size);have g1:Hid (∀ W:World,Below D.heap.size D W->eV W.heap.size W nv tv t):=fun W g=>xX (I.K F) (J.K F) F.size g;have M:Hid (∀ W:World,Below D.heap.size D W->_):=fun W (g:Below D.heap.size D W)=>oF t E hD 201 (by omega) 0 [] false nv tv W h0 (by simpa using hw) (g1.out W g);have f8:Hid (∀ W:World,_):=fun W=>fH 4 W;obtain ⟨la,k8,h2,_,_⟩:=hp.rl.sl;have l3:=jL t.N[0].L;have i1:=dH (bT t.N[0].L);have l7:=jL t.tail;subst h2 h9 h7;cases f7;simp only [Nat.zero_mul,Nat.add_zero] at z1;clear I J hv hp hw;have f6:=aB A;rw [A] at Z;have b5:=z1;rw [A] at b5;clear A;have Y:=aB (show _/\_ from ⟨y0,y1⟩);clear y0 y1 z1 F h4;rw [drop_zero] at M;generalize (aH E 201 t.N).1=vd at *;generalize t.N[0].L=ld at *
 go_enter func17,ntmps17
 go_wp2_with fail
 refine Z.out.mono ?_;rintro e w2 ⟨v2,rfl,o2,b2⟩;have A:=f6.out;rw [<- A] at o2 b2;clear A;rw [nil_append] at o2;have f4:=aB b2;have d2:=b2.size;have a0:=aB o2;have b4:=aB (M.out w2 b2);obtain ⟨a2,c2,g7,_,_⟩:=o2.sl;have x0:w2.cell? ⟨w.heap.size,0,none⟩=some (.slice (some ⟨b,g2,none⟩) t.N.length d4):=(by rw [b2.cell (by simp;omega)];exact Y.out.1);have x1:w2.cell? ⟨w.heap.size,1,none⟩=some (.slice ta t.tail.length O):=(by rw [b2.cell (by simp;omega)];exact Y.out.2);generalize H:(bT ld).length=L2 at *;subst g7;clear o2 b2 Z b5
 go_wp2_with fail
 refine b4.out.mono ?_;rintro e w3 ⟨v3,rfl,o3,g3⟩;obtain ⟨v4,w4,k7,o4,g4,_,⟨a4,c4,f0⟩,_⟩:=a0.out.push g3 o3 d2 (by omega);obtain ⟨a3,c3,d7,_,_⟩:=o3.sl;have b9:Below D.heap.size w2 w4:=(Below.refl _ _).grown g4 d2 (fun x e=>(a0.out.lt x e).1);have c0:=aB (f4.out.trans b9);have b8:=c0.out.size;have a1:=aB o4;rw [H] at f0;generalize vd.length=L3 at d7;subst d7 f0;clear o3 o4 g3 g4 b9 b4 a0 x0 x1
 go_wp2_with fail
 refine (f8.out _).mono ?_;rintro e w5 ⟨v5,rfl,o5,g5⟩;obtain ⟨v6,w6,i5,o6,g6,_,⟨a6,c6,d0⟩,_⟩:=a1.out.push g5 o5 b8 (by rw [length_append,H];simp;omega);obtain ⟨a5,c5,d5,_,_⟩:=o5.sl;have b6:Below D.heap.size w4 w6:=(Below.refl _ _).grown g6 b8 (fun x e=>(a1.out.lt x e).1);have G:=aB (c0.out.trans b6);have h6:=G.out.size;have c9:=aB (qE v6 _ _ t.tail D.heap.size w6 o6 h6 (dY f2.out G.out) (by omega) (by rw [length_append,length_append,H];simp;omega));simp only [aM,length_singleton] at d5;rw [length_append,H,length_singleton] at d0;have x1:w6.cell? ⟨w.heap.size,1,none⟩=some (.slice ta t.tail.length O):=(by rw [G.out.cell (by simp;omega)];exact Y.out.2);subst d5 d0;clear o5 o6 g5 g6 b6 a1
 go_wp2_with fail
 refine c9.out.mono ?_;rintro e w7 ⟨v7,rfl,o7,b7⟩;have d8:=aB (G.out.trans b7);have HE:=aB (show bT ld++[vd]++[aM 4]++bT t.tail=bT ld++(vd::aM 4::bT t.tail) by simp);have S:DoR D.heap.size w7 v7 (bT ld++(vd::aM 4::bT t.tail)):=(by rw [<- HE.out];exact o7);have HR:=aB (kE v7 _ _ w7 S.di d8.out.size (by rw [cS];simp only [bW,aM,mes,length_nil];omega));obtain ⟨a7,c7,d1,_,_⟩:=S.sl;generalize (bT ld++(vd::aM 4::bT t.tail)).length=L7 at d1;subst d1;clear o7 S b7 c9 HE
 go_wp2_with fail
 refine HR.out.mono ?_;rintro e w8 ⟨v8,rfl,o8,g8⟩;have g0:=aB (o8.base (B':=w.heap.size) GG.out.size);have h8:=aB (aA (aA GG.out (aC d8.out)) g8);obtain ⟨a8,c8,c1,_,_⟩:=o8.sl;generalize (eR (bT ld++(vd::aM 4::bT t.tail))).length=L8 at c1;subst c1;clear o8 g8 HR;go_wp2;go_ret;refine ⟨_,rfl,?_,h8.out⟩;rw [g9.out];exact g0.out
end
def eK (ps:List Pc):Bool:=decide (40000<ps.length)||decide (100000<cR ps)
def bdR (vv:Bool) (ind:Int) (t:Tre):List Pc × Int:=if vv=true/\0<=ind/\ind<=16 then (if eK (eM ind t)=true then ([],4) else (eM ind t,0)) else ([],1)
theorem sO (h:List Pc) (p:Pc):cR (h++[p])=cR h+p.t.length:=by
 induction h with
 | nil=>simp [cR]
 | cons q h ih=>simp only [cons_append,cR,ih];omega
theorem fW:∀ h,0<=cR h
 | []=>Int.le_refl _
 | p::h=>by have:=fW h;simp only [cR];omega
theorem aE7 (v h B w) (J:PiR B w none v h) (hn:mes h<=4194304) :
  Calls prog 16 #[v] w fun e w'=>e=.returned (.bool (eK h))/\w=w':=by
 have H:=aB J;obtain ⟨a,a2,O,_⟩:=id J;subst O;have hl:=qP h;have a6:=xB h;clear J
 go_enter func16,ntmps16
 go_wp2
 go_loopw [3,4] (fun o i W=>∃ (k:Nat),k<=h.length/\i=.int .i64 k/\o=.int .i64 (cR (h.take k))/\w=W)
  (fun _ i _=>h.length - (intOf i).toNat)
 case atStart=>exact ⟨0,Nat.zero_le _,rfl,rfl,rfl⟩
 case round=>
  obtain ⟨k,hk,rfl,rfl,rfl⟩:=hrel
  by_cases A:k<h.length
  .obtain ⟨b,a5,Z,G,hz,tv,c0,c1,c2,S⟩:=H.out.at k A;cases G;have hm:=aGw h h[k] (getElem_mem A)
   have HP:=aB (show cR (h.take (k+1))=cR (h.take k)+h[k].t.length by
    rw [show h.take (k+1)=h.take k++[h[k]] by rw [take_add_one];simp [A],sO])
   have a4:cR (h.take k)<=4194304:=by
    have F:=xB (h.take k);have h2:=fM (h.take k) (h.drop k);rw [take_append_drop] at h2;omega
   have I:=fW (h.take k);obtain ⟨ta,Y,N,_,_⟩:=S.sl;subst N;clear S H;generalize h[k]=p at *;generalize cR (h.take k)=sm at *;go_wp2
   go_roundw
   case rel=>exact ⟨k+1,by omega,by go_num,by rw [HP.out],trivial⟩
   case measure=>simp [intOf];omega
  .have M:k=h.length:=(by omega);subst M;rw [take_length];have I:=fW h;clear H
   by_cases F:40000<h.length
   .have hd:decide (40000<h.length)=true:=(by simp [F]);have E:(40000:Int)<h.length:=(by omega);go_wp2;go_ret;exact ⟨by simp [eK,F],rfl⟩
   .have E:¬ (40000:Int)<h.length:=(by omega);have a0:decide ((40000:Int)<h.length)=false:=(by simpa using E);generalize D:cR h=sm at *;go_wp2;go_ret;exact ⟨by simp [eK,F,D],rfl⟩
theorem aKi (t h) (H:kU t) (F:aE bD 201 false (t.N,())=some ([],())):mes (eM h t)<=wNs t.N+wC t.tail+10:=by
 obtain ⟨n,P,A,M⟩:=tF h 201 false t.N [] F (fun p D G=>((H.nd p D).2.2.2.2.2.2.2.2.2.1 G).1);have J:wNs t.N=wN n+wNs P:=(by rw [A];simp [wNs]);have I:=jL n.L;have O:=jL t.tail
 have E:eM h t=eR (bT n.L++((aH h 201 t.N).1::aM 4::bT t.tail)):=by
  unfold eM;rw [A]
 rw [E];refine Nat.le_trans (lU _) ?_;rw [cS];simp only [bW,aM,mes,length_nil];omega
end Go.Proofs.YtckcaefnokeodaaGreatDoor
