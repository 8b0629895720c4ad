import Derived.Test.YtmfehflibkokbaaGreatDoorMBK
set_option maxHeartbeats 16000000
set_option maxRecDepth 100000
namespace Go.Proofs.YtmfehflibkokbaaGreatDoor
open Go.Proofs.Tryz
open Go.RowKit
attribute [-go_sem] Builtin.append_
def nH (B:Nat) (w:World) (v:Value) (k:Nat) (ns:List Nod):Prop:=
 ∃ xs,w.ownsRow B 35 8 v k xs/\∀ j p,j<k->ns[j]?=some p->∃ a n c t a' n' c',At8 xs (j*8) p (.slice a n c) t.1 t.2.1 t.2.2 (.slice a' n' c')/\nM B w p t/\Apr v.ownBlock t
theorem nH.set {B k:Nat} {w:World} {v:Value} {A:List Nod} (h:nH B w v k A) (b j:Nat) (x:Value) (U:b<B):nH B (w.setCell ⟨b,j,none⟩ x) v k A:=by
 obtain ⟨xs,y,N⟩:=h;refine ⟨xs,uF y _ _ (fun e=>by have:=(World.ownsRow.lt y _ e).1;simp only at this;omega),fun j p X J=>?_⟩;obtain ⟨a,n,c,t,S,E,M,G,O,D⟩:=N j p X J;exact ⟨a,n,c,t,S,E,M,G,O.set _ _ _ U,D⟩
theorem nH.base {B B' k:Nat} {w:World} {v:Value} {A:List Nod} (h:nH B w v k A) (y:B'<=B):nH B' w v k A:=by
 obtain ⟨xs,D,O⟩:=h;refine ⟨xs,dP y D,fun j p X M=>?_⟩;obtain ⟨a,n,c,t,U,G,N,J,S,E⟩:=O j p X M;exact ⟨a,n,c,t,U,G,N,J,S.base y,E⟩
theorem nM.row {B:Nat} {w w':World} {p:Nod} {t:V3} {r:Option Nat} (h:nM B w p t) (A:Apr r t) (g:w.grownBy w' r):nM B w' p t:=
 ⟨Ow.beside h.1 g (fun k e j y q=>A k (.inl e) (by rw [y,q])),Ow.beside h.2.1 g (fun k e j y q=>A k (.inr (.inl e)) (by rw [y,q])),Ow.beside h.2.2 g (fun k e j y q=>A k (.inr (.inr e)) (by rw [y,q]))⟩
theorem nM.apr {B:Nat} {w:World} {p:Nod} {t:V3} (h:nM B w p t) (r:Option Nat) (A:∀ x,r=some x->x<B\/w.heap.size<=x):Apr r t:=fun g y e=>by
 have:=A g e;rcases y with y | y | y
 ·have:=World.ownsRow.lt h.1 g y;omega
 ·have:=World.ownsRow.lt h.2.1 g y;omega
 ·have:=World.ownsRow.lt h.2.2 g y;omega
theorem At8.app {xs:List Value} {o:Nat} {p:Nod} {lv A D y tv:Value} (h:At8 xs o p lv A D y tv) (ys:List Value):At8 (xs++ys) o p lv A D y tv:=by
 obtain ⟨S,M,O,G,E,N,J,U⟩:=h;have f:∀ i u,xs[i]?=some u->(xs++ys)[i]?=some u:=fun i u h=>by rw [List.getElem?_append_left (List.getElem?_eq_some_iff.1 h).1];exact h
 exact ⟨f _ _ S,f _ _ M,f _ _ O,f _ _ G,f _ _ E,f _ _ N,f _ _ J,f _ _ U⟩
theorem At8.last (xs:List Value) (o:Nat) (p:Nod) (lv y A h tv:Value) (D:xs.length=o):At8 (xs++[.int .i64 p.k,lv,.bool p.mem,y,A,h,.int .i64 p.C,tv]) o p lv y A h tv:=by
 subst D
 have f:∀ i,(xs++[.int .i64 p.k,lv,.bool p.mem,y,A,h,.int .i64 p.C,tv])[xs.length+i]?=[Value.int .i64 p.k,lv,.bool p.mem,y,A,h,.int .i64 p.C,tv][i]?:=fun i=>by
  rw [List.getElem?_append_right (by omega)];congr 1;omega
 exact ⟨f 0,f 1,f 2,f 3,f 4,f 5,f 6,f 7⟩
theorem aGn (B:Nat) (w:World) (v:Value) (n:Nat) (xs:List Value) (b:Nat) (p:Nod) (la:Option Addr) (O X:Nat) (ka:Option Addr) (kn kc:Nat) (xa:Option Addr) (Y Z:Nat) (ua:Option Addr) (J M:Nat) (U:Option Addr) (S tc:Nat)
  (E:w.ownsRow B 35 8 v n xs)
  (y:C8 w b (.int .i64 p.k) (.slice la O X) (.bool p.mem) (.slice ka kn kc) (.slice xa Y Z) (.slice ua J M) (.int .i64 p.C) (.slice U S tc)) (hB:B<=w.heap.size) (hn:n<=100000000) :
  ∃ D w',(Builtin.append_ #[23,23] 23 #[v,.slice (some ⟨b,0,none⟩) 1 1]).run prog w=.ok D w'/\
   w'.ownsRow B 35 8 D (n+1) (xs++[.int .i64 p.k,.slice la O X,.bool p.mem,.slice ka kn kc,.slice xa Y Z,.slice ua J M,.int .i64 p.C,.slice U S tc])/\w.grownBy w' v.ownBlock/\(D.ownBlock=v.ownBlock\/D.ownBlock=some w.heap.size)/\∃ a cap,D=.slice a (n+1) cap:=by
 obtain ⟨i0,hi,b2,N,a8⟩:=info_parts aLz
 have A:∀ j u,([.int .i64 p.k,.slice la O X,.bool p.mem,.slice ka kn kc,.slice xa Y Z,.slice ua J M,.int .i64 p.C,.slice U S tc]:List Value)[j]?=some u->w.cell? ((⟨b,0,none⟩:Addr).add j)=some u:=by
  intro j u h;rw [Addr.add_lit,Nat.zero_add]
  match j,h with
  | 0,h=>simp at h;subst h;exact y.c0
  | 1,h=>simp at h;subst h;exact y.c1
  | 2,h=>simp at h;subst h;exact y.c2
  | 3,h=>simp at h;subst h;exact y.c3
  | 4,h=>simp at h;subst h;exact y.c4
  | 5,h=>simp at h;subst h;exact y.c5
  | 6,h=>simp at h;subst h;exact y.c6
  | 7,h=>simp at h;subst h;exact y.c7
  | j+8,h=>simp at h
 obtain ⟨D,w',G,h3,h4,_,h5⟩:=run_append_own_at (P:=prog) w B 23 23 35 i0 (.agg #[.int .i64 0,.slice none 0 0,.bool false,.slice none 0 0,.slice none 0 0,.slice none 0 0,.int .i64 0,.slice none 0 0]) 8 144 underlying23 hi b2 N a8 rfl (by decide) v n xs E ⟨b,0,none⟩ 1 1 _ rfl A
   (by intro u hu;simp at hu;rcases hu with rfl | rfl | rfl | rfl | rfl | rfl | rfl | rfl<;>rfl) (by unfold maxLen;omega) (by omega) hB
 refine ⟨D,w',G,h3,h4,h5,?_⟩;rcases h3.2 with ⟨hv,hn⟩ | ⟨g,cap,b9,hv,_⟩
 ·omega
 ·exact ⟨_,cap,hv⟩
theorem aEv (nv tv:Value) (t:Tre) (w:World) (hv:eF w.heap.size w nv tv t) (b2:TOk t) :
  Calls prog 17 #[.agg #[nv,tv]] w fun e w'=>∃ i3 a n c,e=.returned (.agg #[i3,.slice a n c])/\nH w.heap.size w' i3 t.N.length t.N/\w.grownBy w' none:=by
 obtain ⟨g7,g0⟩:=hv;obtain ⟨na,b6,n5,_⟩:=id g7;obtain ⟨ta,i5,o4,_⟩:=id g0;have HN:=aB g7;have l4:=aB b2;have u1:=b2.n;have HJ:=aB (fun W (g:w.grownBy W none)=>tL tv t.tail W ((g0.K g).wide g.size) b2.tl b2.ts);subst n5 o4;clear g7 g0 b2
 go_enter func17,ntmps17
 go_wp2_with fail
 refine (HJ.out _ (aA gWA gWA)).mono ?_;rintro e G ⟨⟨ja,jn,jc,rfl⟩,g1⟩;have GW:=aB (aA (aA (World.grownBy_alloc w (Obj.cells #[.slice na t.N.length b6,.slice ta t.tail.length i5] 26) none) (World.grownBy_alloc _ (Obj.cells #[.slice none 0 0,.slice none 0 0] 26) _)) g1);have q0:=g1.cell (a:=⟨w.heap.size,0,none⟩) (v:=.slice na t.N.length b6) (by simp [go_sem]) (by simp);have r0:=gV (a:=⟨w.heap.size+1,0,none⟩) (v:=.slice none 0 0) g1 (by simp [go_sem]) (by simp [go_sem]);have r1:=gV (a:=⟨w.heap.size+1,1,none⟩) (v:=.slice none 0 0) g1 (by simp [go_sem]) (by simp [go_sem]);have v8:w.heap.size+2<=G.heap.size:=(by have:=g1.size;simp at this;omega);clear g1 HJ;go_wp2
 go_loopw [4] (fun i W=>∃ (k:Nat) (ov:Value),k<=t.N.length/\i=.int .i64 k/\Below G.heap.size G W/\G.heap.size+1<=W.heap.size/\W.cell? ⟨G.heap.size,0,none⟩=some ov/\W.frozen? ⟨G.heap.size,0,none⟩=false/\W.cell? ⟨G.heap.size,1,none⟩=some (.slice ja jn jc)/\Hid (nH (G.heap.size+1) W ov k t.N))
  (fun i _=>t.N.length - (intOf i).toNat)
 case atStart=>
  refine ⟨0,.slice none 0 0,Nat.zero_le _,rfl,(Below.refl _ _).alloc (Nat.le_refl _) _,by simp,by simp [go_sem],by simp [go_sem],by simp [go_sem],⟨[],⟨by simp,.inl ⟨rfl,rfl⟩⟩,fun j p hj=>absurd hj (by omega)⟩⟩
 case round=>
  obtain ⟨k,ov,hk,rfl,a5,x2,oc,j5,o1,HC⟩:=hrel;have x1:wr.cell? ⟨w.heap.size,0,none⟩=some (.slice na t.N.length b6):=(by rw [a5.cell (by simp;omega)];exact q0);obtain ⟨xs,b8,j8⟩:=HC.out;have f8:=aB j8;have S:=aB b8;obtain ⟨oa,Z,rfl⟩:=vL b8;have GR:=aB (aC ((aT GW.out).trans (a5.mono (by omega))));have E:=aB a5
  by_cases f9:k<t.N.length
  ·obtain ⟨b,off,s6,lv,kv,xv,uv,tv',n6,hb,O⟩:=(HN.out.K GR.out).at k f9;cases n6;have Y:=l4.out.ns _ (List.getElem_mem f9);have j2:t.N[k]?=some t.N[k]:=(by simp [f9]);have h9:=aB j2;have z0:=O.k;have z1:=O.L;have z2:=O.mem;have z3:=O.key;have z4:=O.X;have z5:=O.U;have z6:=O.C;have z7:=O.tail;have b9:=GR.out.size;have J1:Hid (∀ W:World,wr.grownBy W none->_):=fun W (g:wr.grownBy W none)=>tL lv _ W ((O.rl.K g).wide (Nat.le_trans b9 g.size)) Y.L Y.leads;have J2:Hid (∀ W:World,wr.grownBy W none->_):=fun W (g:wr.grownBy W none)=>tL tv' _ W ((O.rt.K g).wide (Nat.le_trans b9 g.size)) Y.tail Y.tails;have J3:Hid (∀ W:World,wr.grownBy W none->_):=fun W (g:wr.grownBy W none)=>yG kv _ W ((O.rk.K g).wideC (Nat.le_trans b9 g.size)) (by have:=Y.key;omega);have J4:Hid (∀ W:World,wr.grownBy W none->_):=fun W (g:wr.grownBy W none)=>yG uv _ W ((O.ru.K g).wideC (Nat.le_trans b9 g.size)) (by have:=Y.U;omega);have J5:Hid (∀ W:World,wr.grownBy W none->_):=fun W (g:wr.grownBy W none)=>tB xv _ W ((O.rx.K g).wideC (Nat.le_trans b9 g.size)) (by have:=Y.X;omega);obtain ⟨la,b1,k8,_,_⟩:=O.rl.sl;obtain ⟨f6,a4,m9,_,_⟩:=O.rt.sl;obtain ⟨ka,b5,l1,_,_⟩:=O.sk;obtain ⟨xa,b3,l7,_,_⟩:=O.sx;obtain ⟨ua,a8,m7,_,_⟩:=O.su;subst k8 m9 l1 l7 m7;clear O Y j2 HC j8 b8 a5;generalize t.N[k]=p at *
   have X0:C8 (wr.alloc (Obj.cells #[.int .i64 p.k,.slice la p.L.length b1,.bool p.mem,.slice ka p.key.length b5,.slice xa p.X.length b3,.slice ua p.U.length a8,.int .i64 p.C,.slice f6 p.tail.length a4] 35)) wr.heap.size (.int .i64 p.k) (.slice la p.L.length b1) (.bool p.mem) (.slice ka p.key.length b5) (.slice xa p.X.length b3) (.slice ua p.U.length a8) (.int .i64 p.C) (.slice f6 p.tail.length a4):=
    ⟨by simp [go_sem],by simp [go_sem],by simp [go_sem],by simp [go_sem],by simp [go_sem],by simp [go_sem],by simp [go_sem],by simp [go_sem],fun j=>by simp [go_sem]⟩
   have HX:=aB X0;have HB:=aB ((Below.refl wr.heap.size wr).alloc (Nat.le_refl _) (Obj.cells #[.int .i64 p.k,.slice la p.L.length b1,.bool p.mem,.slice ka p.key.length b5,.slice xa p.X.length b3,.slice ua p.U.length a8,.int .i64 p.C,.slice f6 p.tail.length a4] 35));clear X0
   go_wp2_with fail
   refine (J1.out _ (aC HB.out)).mono ?_;rintro e w2 ⟨⟨a1,n1,c1,rfl⟩,g2⟩;have X2:=HX.out.K g2;have i1:=aB (X2.p1 (.slice a1 n1 c1));have c4:=aB ((HB.out.grown g2 HB.out.size (fun k e=>by cases e)).setCell (p:=⟨wr.heap.size,1,none⟩) (Nat.le_refl _) (.slice a1 n1 c1));obtain ⟨y0,y1,y2,y3,y4,y5,y6,y7,yf⟩:=X2;clear g2 HX HB J1
   go_wp2_with fail
   refine (J2.out _ (aC c4.out)).mono ?_;rintro e w3 ⟨⟨a2,n2,c2,rfl⟩,g3⟩;have X3:=i1.out.K g3;have j1:=aB (X3.p7 (.slice a2 n2 c2));have c0:=aB ((c4.out.grown g3 c4.out.size (fun k e=>by cases e)).setCell (p:=⟨wr.heap.size,7,none⟩) (Nat.le_refl _) (.slice a2 n2 c2));clear y0 y1 y2 y3 y4 y5 y6 y7 yf;obtain ⟨y0,y1,y2,y3,y4,y5,y6,y7,yf⟩:=X3;clear g3 i1 c4 J2;have s3:wr.heap.size+1<=w3.heap.size:=by have:=World.block_lt_of_cell? w3 _ y0;simp only at this;omega
   go_wp2_with fail
   refine (J3.out _ (aC c0.out)).mono ?_;rintro e w4 ⟨v4,rfl,q4,g4⟩;have O4:=q4;have h0:OwI (wr.heap.size+1) w4 v4 p.key:=dP (by simpa using s3) q4;clear q4 O4;obtain ⟨M,J,o5,_⟩:=h0.rd;subst o5;have X4:=j1.out.K g4;have j0:=aB (X4.p3 (.slice M p.key.length J));have c6:=aB ((c0.out.grown g4 c0.out.size (fun k e=>by cases e)).setCell (p:=⟨wr.heap.size,3,none⟩) (Nat.le_refl _) (.slice M p.key.length J));have i6:=aB (h0.setC ⟨wr.heap.size,3,none⟩ (.slice M p.key.length J) (by simp only;omega));clear y0 y1 y2 y3 y4 y5 y6 y7 yf h0;obtain ⟨y0,y1,y2,y3,y4,y5,y6,y7,yf⟩:=X4;clear g4 j1 c0 J3 s3;have s4:wr.heap.size+1<=w4.heap.size:=by have:=World.block_lt_of_cell? w4 _ y0;simp only at this;omega
   go_wp2_with fail
   refine (J4.out _ (aC c6.out)).mono ?_;rintro e w5 ⟨v5,rfl,q5,g5⟩;have d8:OwI (wr.heap.size+1) w5 v5 p.U:=dP (by simpa using s4) q5;clear q5;obtain ⟨A,y,n4,_⟩:=d8.rd;subst n4;have X5:=j0.out.K g5;have i4:=aB (X5.p5 (.slice A p.U.length y));have c5:=aB ((c6.out.grown g5 c6.out.size (fun k e=>by cases e)).setCell (p:=⟨wr.heap.size,5,none⟩) (Nat.le_refl _) (.slice A p.U.length y));have d5:=aB ((Ow.later i6.out g5).setC ⟨wr.heap.size,5,none⟩ (.slice A p.U.length y) (by simp only;omega));have j6:=aB (d8.setC ⟨wr.heap.size,5,none⟩ (.slice A p.U.length y) (by simp only;omega));clear y0 y1 y2 y3 y4 y5 y6 y7 yf d8 i6;obtain ⟨y0,y1,y2,y3,y4,y5,y6,y7,yf⟩:=X5;clear g5 j0 c6 J4 s4;have s5:wr.heap.size+1<=w5.heap.size:=by have:=World.block_lt_of_cell? w5 _ y0;simp only at this;omega
   go_wp2_with fail
   refine (J5.out _ (aC c5.out)).mono ?_;rintro e w6 ⟨v6,rfl,q6,g6⟩;have d9:OwB (wr.heap.size+1) w6 v6 p.X:=dP (by simpa using s5) q6;clear q6;obtain ⟨D,h,l8,_⟩:=d9.rd;subst l8;have X6:=i4.out.K g6;have X7:=X6.p4 (.slice D p.X.length h);have B7:=(c5.out.grown g6 c5.out.size (fun k e=>by cases e)).setCell (p:=⟨wr.heap.size,4,none⟩) (Nat.le_refl _) (.slice D p.X.length h)
   have O3:nM (wr.heap.size+1) (w6.setCell ⟨wr.heap.size,4,none⟩ (.slice D p.X.length h)) p (.slice M p.key.length J,.slice D p.X.length h,.slice A p.U.length y):=
    ⟨(Ow.later d5.out g6).setC ⟨wr.heap.size,4,none⟩ _ (by simp only;omega),d9.setC ⟨wr.heap.size,4,none⟩ _ (by simp only;omega),(Ow.later j6.out g6).setC ⟨wr.heap.size,4,none⟩ _ (by simp only;omega)⟩
   clear y0 y1 y2 y3 y4 y5 y6 y7 yf;obtain ⟨y0,y1,y2,y3,y4,y5,y6,y7,yf⟩:=X6;clear g6 i4 c5 J5 s5 d5 j6 d9
   have u6:w6.cell? ⟨G.heap.size,0,none⟩=some (.slice oa k Z):=by
    have:=(aC B7).cell oc (by simp)
    rwa [World.cell?_setCell_other _ _ _ _ (by intro e;have:=congrArg Addr.block e;simp only at this;omega)] at this
   have x0:w6.frozen? ⟨G.heap.size,0,none⟩=false:=by
    have:=(gV (aC B7) oc j5).2;simpa using this
   obtain ⟨W7,f4⟩:∃ W7,W7=w6.setCell ⟨wr.heap.size,4,none⟩ (.slice D p.X.length h):=⟨_,rfl⟩;rw [<- f4] at X7 B7 O3;obtain ⟨W8,c3⟩:∃ W8,W8=W7.alloc (Obj.cells #[.int .i64 p.k,.slice a1 n1 c1,.bool p.mem,.slice M p.key.length J,.slice D p.X.length h,.slice A p.U.length y,.int .i64 p.C,.slice a2 n2 c2] 35):=⟨_,rfl⟩;have g8:W7.grownBy W8 none:=(by rw [c3];exact gWA);have s8:W8.heap.size=W7.heap.size+1:=by rw [c3];simp
   have X8:C8 W8 W7.heap.size (.int .i64 p.k) (.slice a1 n1 c1) (.bool p.mem) (.slice M p.key.length J) (.slice D p.X.length h) (.slice A p.U.length y) (.int .i64 p.C) (.slice a2 n2 c2):=by
    rw [c3];exact ⟨by simp [go_sem],by simp [go_sem],by simp [go_sem],by simp [go_sem],by simp [go_sem],by simp [go_sem],by simp [go_sem],by simp [go_sem],fun j=>by simp [go_sem]⟩
   have b7:=aA (aC B7) g8;obtain ⟨v9,w9,j4,b4,g9,f7,a9,c9,o0⟩:=aGn (G.heap.size+1) W8 (.slice oa k Z) k xs W7.heap.size p a1 n1 c1 M p.key.length J D p.X.length h A p.U.length y a2 n2 c2 (World.ownsRow.kept S.out b7 (by cases (Value.slice oa k Z).ownBlock<;>simp)) X8 (by have:=b7.size;omega) (by omega);have b0:∀ x,(Value.slice oa k Z).ownBlock=some x->G.heap.size+1<=x/\x<wr.heap.size:=fun x e=>World.ownsRow.lt S.out x e;have i9:=b7.size;have n3:=B7.size
   have j3:Hid (nH (G.heap.size+1) (w9.setCell ⟨G.heap.size,0,none⟩ v9) v9 (k+1) t.N):=by
    refine nH.set ⟨_,b4,fun j q hj hq=>?_⟩ _ _ _ (by omega)
    by_cases k9:j<k
    ·obtain ⟨a,n,c,t3,a',n',c',h1,h2,h3⟩:=f8.out j q k9 hq;refine ⟨a,n,c,t3,a',n',c',h1.app _,(h2.later b7).row h3 g9,?_⟩;rcases f7 with e | e
     ·rw [e];exact h3
     ·rw [e];exact h2.apr _ (fun x ex=>by cases ex;right;omega)
    ·have o7:j=k:=(by omega);subst o7;rw [h9.out] at hq;cases hq;have A0:Apr (Value.slice oa j Z).ownBlock (Value.slice M p.key.length J,Value.slice D p.X.length h,Value.slice A p.U.length y):=O3.apr _ (fun x ex=>by have:=b0 x ex;left;omega);refine ⟨_,_,_,(.slice M p.key.length J,.slice D p.X.length h,.slice A p.U.length y),_,_,_,At8.last xs (j*8) p _ _ _ _ _ S.out.1,(((O3.later g8).row A0 g9).base (by omega)),?_⟩;rcases f7 with e | e
     ·rw [e];exact A0
     ·rw [e];exact O3.apr _ (fun x ex=>by cases ex;right;omega)
   have a6:Below (G.heap.size+1) wr w9:=(((B7.mono (by omega)).grown g8 (by omega) (fun k e=>by cases e)).grown g9 (by omega) (fun x e=>(b0 x e).1));have k5:w9.cell? ⟨G.heap.size,0,none⟩=some (.slice oa k Z):=(by rw [a6.cell (by simp)];exact oc);have l0:w9.frozen? ⟨G.heap.size,0,none⟩=false:=(by rw [a6.frozen (by simp)];exact j5);have l3:w9.cell? ⟨G.heap.size,1,none⟩=some (.slice ja jn jc):=(by rw [a6.cell (by simp)];exact o1);have k4:=aB ((E.out.trans (a6.mono (by omega))).setCell (p:=⟨G.heap.size,0,none⟩) (Nat.le_refl _) v9);have n0:G.heap.size+1<=w9.heap.size:=(by have:=a6.size;omega);have e7:W7.heap.size=w6.heap.size:=(by rw [f4];simp);rw [e7] at j4;clear e7;subst o0 c3 f4;clear b4 g9 f7 X8 X7 B7 O3 g8 s8 b7 b0 i9 n3 a6 E f8 S h9;go_wp2
   go_roundw
   case rel=>exact ⟨k+1,_,by omega,by go_num,k4.out,by simpa using n0,by simp [go_sem,k5],by simp [go_sem,l0],by simp [go_sem,l3],j3⟩
   case measure=>simp [intOf];omega
  ·have m2:k=t.N.length:=(by omega);subst m2;have n7:wr.cell? ⟨w.heap.size+1,0,none⟩=some (.slice none 0 0):=(by rw [E.out.cell (by simp;omega)];exact r0.1);have k3:wr.cell? ⟨w.heap.size+1,1,none⟩=some (.slice none 0 0):=(by rw [E.out.cell (by simp;omega)];exact r1.1);have u4:wr.frozen? ⟨w.heap.size+1,0,none⟩=false:=(by rw [E.out.frozen (by simp;omega)];exact r0.2);have u0:wr.frozen? ⟨w.heap.size+1,1,none⟩=false:=(by rw [E.out.frozen (by simp;omega)];exact r1.2);clear f8 S;go_wp2;refine bodyPost_ret (v:=.agg #[.slice oa t.N.length Z,.slice ja jn jc]) (by simp [results,Tryz.results17,go_sem,n7,k3]) rfl ?_;refine ⟨_,_,_,_,rfl,?_,?_⟩
   ·exact ((HC.out.set _ _ _ (by omega)).set _ _ _ (by omega)).base (by omega)
   ·exact aC (((aT GR.out).setCell (by simp) _).setCell (by simp) _)
end Go.Proofs.YtmfehflibkokbaaGreatDoor
namespace Go.Proofs.YtmfehflibkokbaaGreatDoor
open Go.Proofs.Tryz
open Go.RowKit
theorem yU (w:World) (b j:Nat) (x:Value):w.grownBy (w.setCell ⟨b,j,none⟩ x) (some b):=⟨rfl,rfl,rfl,by simp,fun i _ h=>Below.heap_setCell _ _ _ _ (fun e=>h (by rw [e]))⟩
def str2 (xs:List Value) (o:Nat):List Value:=(xs.set (o+1) (.slice none 0 0)).set (o+7) (.slice none 0 0)
theorem At8.ne2 {xs:List Value} {A:Nat} {p:Nod} {lv E G D tv:Value} (h:At8 xs A p lv E G D tv) (o:Nat) (hj:A+8<=o\/o+8<=A):At8 (str2 xs o) A p lv E G D tv:=by
 obtain ⟨X,O,U,M,J,S,N,Y⟩:=h
 have y:∀ i u,(i<o\/o+8<=i)->xs[i]?=some u->(str2 xs o)[i]?=some u:=fun i u Z h=>by
  unfold str2;rw [List.getElem?_set_ne (by omega),List.getElem?_set_ne (by omega)];exact h
 exact ⟨y _ _ (by omega) X,y _ _ (by omega) O,y _ _ (by omega) U,y _ _ (by omega) M,y _ _ (by omega) J,y _ _ (by omega) S,y _ _ (by omega) N,y _ _ (by omega) Y⟩
theorem At8.str2 {xs:List Value} {o:Nat} {p:Nod} {lv D E A tv:Value} (h:At8 xs o p lv D E A tv) (Y:o+8<=xs.length):At8 (str2 xs o) o p (.slice none 0 0) D E A (.slice none 0 0):=by
 obtain ⟨X,Z,S,J,G,O,M,e7⟩:=h
 have y:∀ i u,i≠o+1->i≠o+7->xs[i]?=some u->(Go.Proofs.YtmfehflibkokbaaGreatDoor.str2 xs o)[i]?=some u:=fun i u N U h=>by
  unfold Go.Proofs.YtmfehflibkokbaaGreatDoor.str2;rw [List.getElem?_set_ne (Ne.symm U),List.getElem?_set_ne (Ne.symm N)];exact h
 refine ⟨y _ _ (by omega) (by omega) X,?_,y _ _ (by omega) (by omega) S,y _ _ (by omega) (by omega) J,y _ _ (by omega) (by omega) G,y _ _ (by omega) (by omega) O,y _ _ (by omega) (by omega) M,?_⟩
 ·unfold Go.Proofs.YtmfehflibkokbaaGreatDoor.str2;rw [List.getElem?_set_ne (by omega),List.getElem?_set_self (by omega)]
 ·unfold Go.Proofs.YtmfehflibkokbaaGreatDoor.str2;rw [List.getElem?_set_self (by simp only [List.length_set];omega)]
def aCq (B:Nat) (w:World) (v:Value) (k:Nat) (ns:List Nod) (xs:List Value):Prop:=
 ∀ j p,ns[j]?=some p->∃ a n c t a' n' c',At8 xs (j*8) p (.slice a n c) t.1 t.2.1 t.2.2 (.slice a' n' c')/\(j<k->Value.slice a n c=.slice none 0 0/\Value.slice a' n' c'=.slice none 0 0)/\nM B w p t/\Apr v.ownBlock t
theorem aAR (nv tv:Value) (t:Tre) (vv:Bool) (w:World) (hv:eF w.heap.size w nv tv t) (a8:TOk t)
  (E:∀ W:World,eF W.heap.size W nv tv t->Calls prog 16 #[.agg #[nv,tv]] W fun e d4=>e=.returned (.bool vv)/\W.grownBy d4 none) :
  Calls prog 5 #[.agg #[nv,tv]] w fun e w'=>∃ c5,e=.returned (.agg #[c5,.slice none 0 0])/\RdN w'.heap.size w' c5 (if vv=true then t.N.map qQ else [])/\w.grownBy w' none:=by
 obtain ⟨b7,b2⟩:=id hv;obtain ⟨na,Z,f6,_⟩:=id b7;obtain ⟨ta,U,f8,_⟩:=id b2;have a6:Hid (∀ W:World,w.grownBy W none->eF W.heap.size W nv tv t):=fun W g=>⟨(b7.K g).wide g.size,(b2.K g).wide g.size⟩;have HV:Hid (∀ W:World,w.grownBy W none->_):=fun W (g:w.grownBy W none)=>E W (a6.out W g);have a7:Hid (∀ W:World,w.grownBy W none->_):=fun W (g:w.grownBy W none)=>aEv nv tv t W (a6.out W g) a8;have h0:=a8.n;subst f6 f8;clear hv b7 b2 a8 E a6;have gA:=aB (aA (World.grownBy_alloc w (Obj.cells #[.slice na t.N.length Z,.slice ta t.tail.length U] 26) none) (World.grownBy_alloc _ (Obj.cells #[.slice none 0 0,.slice none 0 0] 26) _))
 go_enter func5,ntmps5
 go_wp2_with fail
 refine (HV.out _ gA.out).mono ?_;rintro e G ⟨rfl,g1⟩;have q0:=g1.cell (a:=⟨w.heap.size,0,none⟩) (v:=.slice na t.N.length Z) (by simp [go_sem]) (by simp);have q1:=g1.cell (a:=⟨w.heap.size,1,none⟩) (v:=.slice ta t.tail.length U) (by simp [go_sem]) (by simp);obtain ⟨r0,b4⟩:=gV (a:=⟨w.heap.size+1,0,none⟩) (v:=.slice none 0 0) g1 (by simp [go_sem]) (by simp [go_sem]);obtain ⟨r1,b6⟩:=gV (a:=⟨w.heap.size+1,1,none⟩) (v:=.slice none 0 0) g1 (by simp [go_sem]) (by simp [go_sem]);have G1:=aB (aA gA.out g1);have i3:w.heap.size+2<=G.heap.size:=(by have:=g1.size;simp at this;omega);clear g1 gA HV;cases vv with
 | false=>
   clear a7;go_wp2;refine bodyPost_ret (v:=.agg #[.slice none 0 0,.slice none 0 0]) (by simp [results,Tryz.results5,go_sem,r0,r1]) rfl ?_;refine ⟨_,rfl,⟨none,0,rfl,by simp,by unfold maxLen;omega,fun h=>absurd rfl h⟩,?_⟩;exact aC (((aT G1.out).setCell (by simp) _).setCell (by simp) _)
 | true=>
   go_wp2_with fail
   refine (a7.out _ G1.out).mono ?_;rintro e w2 ⟨g6,a2,n2,c2,rfl,d2,g2⟩;obtain ⟨xs,y,c7⟩:=d2;obtain ⟨S,D,rfl⟩:=vL y;obtain ⟨r0,b4⟩:=gV g2 r0 b4;obtain ⟨r1,b6⟩:=gV g2 r1 b6;have G2:=aB (aA G1.out g2);have f4:=g2.size;have d9:G.heap.size<=w2.heap.size:=f4
   have HE:Hid (aCq G.heap.size w2 (.slice S t.N.length D) 0 t.N xs):=fun j p J=>by
    obtain ⟨a,n,c,Y,a',n',c',M,h2,h3⟩:=c7 j p (List.getElem?_eq_some_iff.1 J).1 J;exact ⟨a,n,c,Y,a',n',c',M,fun h=>absurd h (by omega),h2,h3⟩
   have O:=aB y;clear g2 a7 q0 q1 c7 y;go_wp2
   go_loopw [4] (fun i W=>∃ (k:Nat) (xs:List Value),k<=t.N.length/\i=.int .i64 k/\W.ownsRow G.heap.size 35 8 (.slice S t.N.length D) t.N.length xs/\Hid (aCq G.heap.size W (.slice S t.N.length D) k t.N xs)/\Below G.heap.size w2 W/\
     W.cell? ⟨w2.heap.size,0,none⟩=some (.slice S t.N.length D)/\W.cell? ⟨w2.heap.size,1,none⟩=some (.slice none 0 0)) (fun i _=>t.N.length - (intOf i).toNat)
   case atStart=>
    have gB:=World.grownBy_alloc w2 (Obj.cells #[.slice S t.N.length D,.slice none 0 0] 26) none;refine ⟨0,xs,Nat.zero_le _,rfl,World.ownsRow.kept O.out gB (by cases (Value.slice S t.N.length D).ownBlock<;>simp),fun j p J=>?_,(Below.refl _ _).alloc d9 _,by simp [go_sem],by simp [go_sem]⟩;obtain ⟨a,n,c,Y,a',n',c',M,h2,h3,h4⟩:=HE.out j p J;exact ⟨a,n,c,Y,a',n',c',M,h2,h3.later gB,h4⟩
   case round=>
    obtain ⟨k,b0,hk,rfl,y,b3,A,oc,o1⟩:=hrel;have g0:=aB A
    by_cases i4:k<t.N.length
    ·obtain ⟨g,rfl⟩:∃ g,S=some ⟨g,0,none⟩:=by
      rcases y.2 with ⟨_,h⟩ | ⟨g,cap,h6,hv,_⟩
      ·omega
      ·cases hv;exact ⟨g,rfl⟩
     have hg:=World.ownsRow.lt O.out g rfl;have i7:=y.1;have d0:=World.ownsRow.cellAt y (k*8+1) (by omega);rw [List.getElem?_eq_getElem (by omega)] at d0;have h8:=World.ownsRow.frozenAt y (k*8+1);have d3:=World.ownsRow.cellAt y (k*8+7) (by omega);rw [List.getElem?_eq_getElem (by omega)] at d3;have i2:=World.ownsRow.frozenAt y (k*8+7);have c4:=(World.ownsRow.stored y (k*8+1) (.slice none 0 0)).1;have X:=(World.ownsRow.stored c4 (k*8+7) (.slice none 0 0)).1;have HS:Hid (((wr.setCell ⟨g,k*8+1,none⟩ (.slice none 0 0)).setCell ⟨g,k*8+7,none⟩ (.slice none 0 0)).ownsRow G.heap.size 35 8 (.slice (some ⟨g,0,none⟩) t.N.length D) t.N.length (str2 b0 (k*8))):=X
     have f3:Hid (aCq G.heap.size ((wr.setCell ⟨g,k*8+1,none⟩ (.slice none 0 0)).setCell ⟨g,k*8+7,none⟩ (.slice none 0 0)) (.slice (some ⟨g,0,none⟩) t.N.length D) (k+1) t.N (str2 b0 (k*8))):=fun j p J=>by
      obtain ⟨a,n,c,Y,a',n',c',M,h2,h3,h4⟩:=b3.out j p J;have c3:=(h3.row h4 (yU wr g (k*8+1) (.slice none 0 0))).row h4 (yU _ g (k*8+7) (.slice none 0 0));have g8:=(List.getElem?_eq_some_iff.1 J).1
      by_cases d1:j=k
      ·subst d1;exact ⟨none,0,0,Y,none,0,0,M.str2 (by omega),fun _=>⟨rfl,rfl⟩,c3,h4⟩
      ·exact ⟨a,n,c,Y,a',n',c',M.ne2 _ (by omega),fun h=>h2 (by omega),c3,h4⟩
     have d6:=aB ((A.setCell (p:=⟨g,k*8+1,none⟩) hg.1 (.slice none 0 0)).setCell (p:=⟨g,k*8+7,none⟩) hg.1 (.slice none 0 0));have i0:g≠w2.heap.size:=(by omega);clear c4 X y A b3;go_wp2
     go_roundw
     case rel=>exact ⟨k+1,_,by omega,by go_num,HS.out,f3.out,d6.out,by simp [go_sem,oc],by simp [go_sem,o1]⟩
     case measure=>simp [intOf];omega
    ·have d7:k=t.N.length:=(by omega);subst d7;have z0:wr.cell? ⟨w.heap.size+1,0,none⟩=some (.slice none 0 0):=(by rw [A.cell (by simp;omega)];exact r0);have z1:wr.cell? ⟨w.heap.size+1,1,none⟩=some (.slice none 0 0):=(by rw [A.cell (by simp;omega)];exact r1);have f0:wr.frozen? ⟨w.heap.size+1,0,none⟩=false:=(by rw [A.frozen (by simp;omega)];exact b4);have f1:wr.frozen? ⟨w.heap.size+1,1,none⟩=false:=(by rw [A.frozen (by simp;omega)];exact b6);have d8:=aB (((aT G2.out).trans (A.mono (by omega))));have b5:=aB y;clear y A;go_wp2;refine bodyPost_ret (v:=.agg #[.slice S t.N.length D,.slice none 0 0]) (by simp [results,Tryz.results5,go_sem,z0,z1]) rfl ?_;refine ⟨_,rfl,?_,aC ((d8.out.setCell (by simp) _).setCell (by simp) _)⟩;refine aJc (B:=G.heap.size) (xs:=b0) (uF (uF b5.out _ _ (fun e=>by have:=(World.ownsRow.lt b5.out _ e).1;simp only at this;omega)) _ _ (fun e=>by have:=(World.ownsRow.lt b5.out _ e).1;simp only at this;omega)) fun j p J=>?_;obtain ⟨a,n,c,Y,a',n',c',M,h2,h3,h4⟩:=b3.out j p J;obtain ⟨e1,e2⟩:=h2 (List.getElem?_eq_some_iff.1 J).1;rw [e1,e2] at M;exact ⟨Y,G.heap.size,M,(h3.set _ _ _ (by omega)).set _ _ _ (by omega)⟩
def TxO (B:Nat) (w:World) (tv:Value) (t:List Int):Prop:=
 (tv=.slice none 0 0/\t=[])\/∃ g cap,tv=.slice (some ⟨g,0,none⟩) t.length cap/\t.length<=cap/\cap<=maxLen/\B<=g/\g<w.heap.size/\∀ j,j<t.length->w.cell? ⟨g,j,none⟩=some (.int .u8 (t[j]?.getD 0))/\w.frozen? ⟨g,j,none⟩=false
theorem TxO.lt {B:Nat} {w:World} {tv:Value} {t:List Int} (h:TxO B w tv t):∀ g,tv.ownBlock=some g->B<=g/\g<w.heap.size:=by
 rcases h with ⟨rfl,_⟩ | ⟨g,cap,rfl,_,_,y,A,_⟩
 ·intro g e;cases e
 ·intro k e;cases e;exact ⟨y,A⟩
theorem TxO.sl {B:Nat} {w:World} {tv:Value} {t:List Int} (h:TxO B w tv t):Sl tv t.length:=by
 rcases h with ⟨rfl,rfl⟩ | ⟨g,cap,rfl,A,y,D,E,_⟩
 ·exact ⟨none,0,rfl,Nat.le_refl _,by unfold maxLen;omega⟩
 ·exact ⟨_,_,rfl,A,y⟩
theorem TxO.row {B:Nat} {w w':World} {r:Option Nat} {tv:Value} {t:List Int} (h:TxO B w tv t) (g:w.grownBy w' r) (N:∀ x,tv.ownBlock=some x->r≠some x):TxO B w' tv t:=by
 rcases h with ⟨rfl,rfl⟩ | ⟨x,cap,rfl,J,G,M,D,A⟩
 ·exact .inl ⟨rfl,rfl⟩
 ·have y:some x≠r:=fun e=>N x rfl e.symm;refine .inr ⟨x,cap,rfl,J,G,M,Nat.lt_of_lt_of_le D g.size,fun j E=>⟨g.cell (A j E).1 y,?_⟩⟩;rw [World.frozen?_of_block (g.block x D y)];exact (A j E).2
theorem TxO.K {B:Nat} {w w':World} {tv:Value} {t:List Int} (h:TxO B w tv t) (g:w.grownBy w' none):TxO B w' tv t:=h.row g (fun _ _ e=>by cases e)
theorem TxO.base {B B':Nat} {w:World} {tv:Value} {t:List Int} (h:TxO B w tv t) (M:B'<=B):TxO B' w tv t:=by
 rcases h with h | ⟨x,cap,D,E,y,J,G,A⟩
 ·exact .inl h
 ·exact .inr ⟨x,cap,D,E,y,by omega,G,A⟩
theorem TxO.nil (B:Nat) (w:World):TxO B w (.slice none 0 0) []:=.inl ⟨rfl,rfl⟩
theorem TxO.txR {B:Nat} {w:World} {tv:Value} {t:List Int} (h:TxO B w tv t):TxR B w none tv t:=by
 rcases h with ⟨rfl,rfl⟩ | ⟨g,cap,rfl,D,y,E,G,A⟩
 ·exact TxR.nil _ _ _
 ·exact ⟨_,cap,rfl,D,y,fun _=>⟨g,0,rfl,⟨E,G,by simp⟩,fun j J=>by rw [Nat.zero_add];exact (A j J).1⟩⟩
def Lat (tvs:List Value):Prop:=tvs.Pairwise (fun a b=>∀ g g',a.ownBlock=some g->b.ownBlock=some g'->g<g')
def DfR (H:Nat) (w:World) (v:Value) (ps:List Pc):Prop:=
 ∃ tvs:List Value,tvs.length=ps.length/\w.ownsRow H 95 3 v ps.length (lN ps tvs)/\(∀ (j:Nat) (p:Pc) (tv:Value),ps[j]?=some p->tvs[j]?=some tv->TxO H w tv p.t/\∀ g,tv.ownBlock=some g->v.ownBlock≠some g)/\Lat tvs
theorem DfR.lt {H:Nat} {w:World} {v:Value} {ps:List Pc} (h:DfR H w v ps):∀ k,v.ownBlock=some k->H<=k/\k<w.heap.size:=by
 obtain ⟨y,_,A,_⟩:=h;exact fun k e=>World.ownsRow.lt A k e
theorem DfR.nil (H:Nat) (w:World):DfR H w (.slice none 0 0) []:=⟨[],rfl,⟨by simp [lN],.inl ⟨rfl,rfl⟩⟩,fun j p tv h=>by simp at h,List.Pairwise.nil⟩
theorem DfR.K {H:Nat} {w w':World} {v:Value} {ps:List Pc} (h:DfR H w v ps) (g:w.grownBy w' none):DfR H w' v ps:=by
 obtain ⟨y,G,J,D,M⟩:=h;exact ⟨y,G,World.ownsRow.kept J g (by cases v.ownBlock<;>simp),fun j p tv A E=>⟨(D j p tv A E).1.K g,(D j p tv A E).2⟩,M⟩
theorem DfR.set {H:Nat} {w:World} {v:Value} {ps:List Pc} (h:DfR H w v ps) (b j:Nat) (x:Value) (S:b<H):DfR H (w.setCell ⟨b,j,none⟩ x) v ps:=by
 obtain ⟨D,M,J,E,O⟩:=h;have g:w.grownBy (w.setCell ⟨b,j,none⟩ x) (some b):=⟨rfl,rfl,rfl,by simp,fun i _ N=>Below.heap_setCell _ _ _ _ (fun e=>N (by rw [e]))⟩;exact ⟨D,M,World.ownsRow.kept J g (.inr (fun e=>by have:=(World.ownsRow.lt J b e).1;omega)),fun j p tv A G=>⟨(E j p tv A G).1.row g (fun y e h=>by cases h;have:=((E j p tv A G).1.lt b e).1;omega),(E j p tv A G).2⟩,O⟩
theorem DfR.sl {H:Nat} {w:World} {v:Value} {ps:List Pc} (h:DfR H w v ps):∃ a cap,v=.slice a ps.length cap:=by
 obtain ⟨y,_,A,_⟩:=h;exact yO A
theorem DfR.po {H:Nat} {w:World} {v:Value} {ps:List Pc} (h:DfR H w v ps):PoR H w v ps:=by
 obtain ⟨y,hl,J,ht,hp⟩:=h;refine ⟨_,J,fun j p D=>?_⟩;have a5:=(List.getElem?_eq_some_iff.1 D).1;obtain ⟨tv,A⟩:∃ tv,y[j]?=some tv:=⟨y[j]'(by omega),List.getElem?_eq_getElem (by omega)⟩;obtain ⟨N,M,k3⟩:=tS ps y j p tv D A;obtain ⟨U,Y⟩:=ht j p tv D A;refine ⟨tv,N,M,k3,?_⟩;obtain ⟨a,cap,e,Z,c2,X⟩:=U.txR;refine ⟨a,cap,e,Z,c2,fun S=>?_⟩;obtain ⟨b,off,G,E,O⟩:=X S;exact ⟨b,off,G,⟨E.1,E.2.1,fun q=>Y b (by rw [e,G];rfl) q.symm⟩,O⟩
theorem aBb:∀ (ps:List Pc) (y:List Value) (p:Pc) (tv:Value),y.length=ps.length->lN (ps++[p]) (y++[tv])=lN ps y++[.int .i64 p.k,tv,.int .i64 p.n]
 | [],[],_,_,_=>rfl
 | _::ps,_::y,p,tv,h=>by simp only [List.length_cons,Nat.add_right_cancel_iff] at h;simp only [List.cons_append,lN,aBb ps y p tv h,pcC,List.append_assoc]
 | [],_::_,_,_,h=>by simp at h
 | _::_,[],_,_,h=>by simp at h
theorem DfR.push {H:Nat} {w0 w:World} {v:Value} {ps:List Pc} (k n:Int) (tv:Value) (t:List Int) (hd:DfR H w0 v ps) (g:w0.grownBy w none) (ht:TxO w0.heap.size w tv t) (hH:H<=w0.heap.size) (hn:ps.length<=1000000) :
  ∃ O w',(Builtin.append_ #[30,30] 30 #[v,.slice (some ⟨w.heap.size,0,none⟩) 1 1]).run prog (w.alloc (Obj.cells #[.int .i64 k,tv,.int .i64 n] 95))=.ok O w'/\DfR H w' O (ps++[⟨k,t,n⟩])/\w.grownBy w' v.ownBlock/\∃ a cap,O=.slice a (ps.length+1) cap:=by
 obtain ⟨i0,hi,c8,b1,c5⟩:=info_parts aIc;have gA:=World.grownBy_alloc w (Obj.cells #[.int .i64 k,tv,.int .i64 n] 95) none;have c6:=World.grownBy_alloc w (Obj.cells #[.int .i64 k,tv,.int .i64 n] 95) v.ownBlock;have hs:=g.size;obtain ⟨D,hl,ho,a9,hp⟩:=(hd.K g).K gA;have c7:(w.alloc (Obj.cells #[.int .i64 k,tv,.int .i64 n] 95)).heap.size=w.heap.size+1:=by simp
 have N:∀ j u,([.int .i64 k,tv,.int .i64 n]:List Value)[j]?=some u->(w.alloc (Obj.cells #[.int .i64 k,tv,.int .i64 n] 95)).cell? ((⟨w.heap.size,0,none⟩:Addr).add j)=some u:=by
  intro j u y;rw [Addr.add_lit,Nat.zero_add]
  match j,y with
  | 0,y=>simp at y;subst y;simp [go_sem]
  | 1,y=>simp at y;subst y;simp [go_sem]
  | 2,y=>simp at y;subst y;simp [go_sem]
  | j+3,y=>simp at y
 obtain ⟨O,w',X,h1,h2,_,h4⟩:=run_append_own_at (P:=prog) (w.alloc (Obj.cells #[.int .i64 k,tv,.int .i64 n] 95)) H 30 30 95 i0 (.agg #[.int .i64 0,.slice none 0 0,.int .i64 0]) 3 40 underlying30 hi c8 b1 c5 rfl (by decide) v ps.length _ ho ⟨w.heap.size,0,none⟩ 1 1 _ rfl N
  (by intro x hx;simp at hx;rcases hx with rfl | rfl | rfl
      ·rfl
      ·exact nK ht.sl
      ·rfl) (by unfold maxLen;omega) (by omega) (by omega)
 have a4:∀ A,(∃ (j:Nat) (p:Pc) (u:Value),ps[j]?=some p/\D[j]?=some u/\u.ownBlock=some A)->A<w0.heap.size:=by
  rintro A ⟨j,p,u,y,M,hg⟩;obtain ⟨G,b3,b4,Y,d2⟩:=hd
  have:G=D:=by
   have e1:=World.ownsRow.kept (World.ownsRow.kept b4 g (by cases v.ownBlock<;>simp)) gA (by cases v.ownBlock<;>simp);apply List.ext_getElem?;intro i
   by_cases J:i<ps.length
   ·have k0:=tS ps G i (ps[i]) (G[i]'(by omega)) (by simp [J]) (by simp [b3,J]);have k1:=tS ps D i (ps[i]) (D[i]'(by omega)) (by simp [J]) (by simp [hl,J]);rcases ho.2 with ⟨hv,a8⟩ | ⟨x,cap,b5,hv,_⟩
    ·omega
    ·have c0:=World.ownsRow.cellAt (hv ▸ e1) (i*3+1) (by omega);have c1:=World.ownsRow.cellAt (hv ▸ ho) (i*3+1) (by omega);rw [k0.2.1] at c0;rw [k1.2.1] at c1;rw [c0] at c1;simp only [Option.some.injEq] at c1;rw [List.getElem?_eq_getElem (by omega),List.getElem?_eq_getElem (by omega),c1]
   ·rw [List.getElem?_eq_none (by omega),List.getElem?_eq_none (by omega)]
  subst this;exact ((Y j p u y M).1.lt A hg).2
 have E:∀ A,tv.ownBlock=some A->w0.heap.size<=A/\A<w.heap.size:=fun A e=>ht.lt A e
 have U:∀ x,O.ownBlock=some x->(v.ownBlock=some x\/x=w.heap.size+1):=fun x e=>by
  rcases h4 with h | h
  ·exact .inl (by rw [<- h];exact e)
  ·rw [h,c7] at e;cases e;exact .inr rfl
 refine ⟨O,w',X,⟨D++[tv],by simp [hl],?_,?_,?_⟩,aA c6 h2,?_⟩
 ·rw [aBb ps D _ _ hl,List.length_append];exact h1
 ·intro j p u y M
  by_cases b8:j<ps.length
  ·rw [List.getElem?_append_left b8] at y;rw [List.getElem?_append_left (by omega)] at M;obtain ⟨q1,Z⟩:=a9 j p u y M;refine ⟨q1.row h2 (fun x e h=>Z x e h),fun A e h=>?_⟩;rcases U A h with S | S
   ·exact Z A e S
   ·have:=a4 A ⟨j,p,u,y,M,e⟩;omega
  ·have c4:j=ps.length:=(by have:=(List.getElem?_eq_some_iff.1 y).1;simp at this;omega);subst c4;simp at y;rw [<- hl] at M;simp at M;subst y M;have Z:∀ x,tv.ownBlock=some x->v.ownBlock≠some x:=fun x e h=>by have h1:=(hd.lt x h).2;have:=(E x e).1;omega
   refine ⟨((ht.base hH).K gA).row h2 (fun x e h=>Z x e h),fun A e h=>?_⟩;rcases U A h with S | S
   ·exact Z A e S
   ·have:=(E A e).2;omega
 ·unfold Lat;rw [List.pairwise_append];refine ⟨hp,by simp,?_⟩;intro a ha b hb g1 g2 e1 e2;simp at hb;subst hb;obtain ⟨j,y,c3⟩:=List.getElem_of_mem ha;have:=a4 g1 ⟨j,ps[j]'(by omega),a,by simp [show j<ps.length by omega],by rw [<- c3];simp [y],e1⟩;have:=(E g2 e2).1;omega
 ·rcases h1.2 with ⟨hv,a8⟩ | ⟨x,cap,b5,hv,_⟩
  ·omega
  ·exact ⟨_,cap,hv⟩
def nJ (s:List Pc × Bool) (p:Pc):List Pc × Bool:=if s.2=true\/s.1.length=40000\/100000 - cM s.1<p.t.length then (s.1,true) else (s.1++[p],false)
def iO (s:List Pc × Bool) (ps:List Pc):List Pc × Bool:=ps.foldl nJ s
theorem rT (s:List Pc × Bool) (a b:List Pc):iO s (a++b)=iO (iO s a) b:=by simp [iO]
structure gG (H:Nat) (w:World) (bd:Nat) (s:List Pc × Bool):Prop where
 v:∃ dv,w.cell? ⟨bd,0,none⟩=some dv/\DfR H w dv s.1
 r:w.cell? ⟨bd,1,none⟩=some (.int .i64 (100000 - cM s.1))
 f:w.cell? ⟨bd,2,none⟩=some (.bool s.2)
 fz:∀ j,w.frozen? ⟨bd,j,none⟩=false
 n:s.1.length<=40000
 sm:cM s.1<=100000
theorem gG.K {H:Nat} {w w':World} {bd:Nat} {s:List Pc × Bool} (h:gG H w bd s) (g:w.grownBy w' none):gG H w' bd s:=by
 obtain ⟨A,y,D⟩:=h.v;exact ⟨⟨A,g.cell y (by simp),D.K g⟩,g.cell h.r (by simp),g.cell h.f (by simp),fun j=>by rw [World.frozen?_of_block (g.block bd (World.block_lt_of_cell? w _ y) (by simp))];exact h.fz j,h.n,h.sm⟩
structure Frd (H bd:Nat) (w w':World):Prop where
 os:w'.os=w.os
 tape:w'.tape=w.tape
 output:w'.output=w.output
 size:w.heap.size<=w'.heap.size
 block:∀ k,k<H->k≠bd->w'.heap[k]?=w.heap[k]?
theorem Frd.refl (H bd:Nat) (w:World):Frd H bd w w:=⟨rfl,rfl,rfl,Nat.le_refl _,fun _ _ _=>rfl⟩
theorem Frd.trans {H bd:Nat} {a b c:World} (h:Frd H bd a b) (k:Frd H bd b c):Frd H bd a c:=
 ⟨k.os.trans h.os,k.tape.trans h.tape,k.output.trans h.output,Nat.le_trans h.size k.size,fun i A y=>(k.block i A y).trans (h.block i A y)⟩
theorem Frd.grown {H bd:Nat} {a b:World} {r:Option Nat} (g:a.grownBy b r) (y:H<=a.heap.size) (h:∀ x,r=some x->H<=x\/x=bd):Frd H bd a b:=
 ⟨g.os,g.tape,g.output,g.size,fun k D A=>g.block k (by omega) (fun e=>by have:=h k e.symm;omega)⟩
theorem Frd.set (H bd:Nat) (w:World) (j:Nat) (x:Value):Frd H bd w (w.setCell ⟨bd,j,none⟩ x):=
 ⟨rfl,rfl,rfl,by simp,fun k _ h=>Below.heap_setCell _ _ _ _ (by simpa using h)⟩
end Go.Proofs.YtmfehflibkokbaaGreatDoor
