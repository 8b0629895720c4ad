import Derived.Maps.AppendAt
import Derived.Lib.BufferMore
import Derived.Deep.Slices
import Derived.Test.YtgifkcpdihphlaaGreatDoorMAR
set_option maxHeartbeats 16000000
set_option maxRecDepth 100000
namespace Go.Proofs.YtgifkcpdihphlaaGreatDoor
open Tryz
open Go.RowKit
theorem OwC.set {B:Nat} {w:World} {v:Value} {A:List Cm} (h:OwC B w v A) (b j:Nat) (x:Value) (G:b<B):OwC B (w.setCell ⟨b,j,none⟩ x) v A:=by
 obtain ⟨g,y,hv,E,D,u⟩:=h;refine ⟨g,y,hv,E,uP D _ _ (fun e=>by have:=World.ownsRow.lt D _ e;simp only at this;omega),u.len,fun i p tv H J=>?_,u.apart⟩;have:=u.own i p tv H J;exact ⟨this.1.setC _ _ (by simpa using G),this.2⟩
theorem OwC.base {B B':Nat} {w:World} {v:Value} {A:List Cm} (h:OwC B w v A) (y:B'<=B):OwC B' w v A:=by
 obtain ⟨g,u,hv,G,H,j⟩:=h;exact ⟨g,u,hv,G,bH y H,j.len,fun i p tv D E=>⟨bH y (j.own i p tv D E).1,(j.own i p tv D E).2⟩,j.apart⟩
structure C8 (w:World) (b:Nat) (a0 a1 a2 a3 a4 a5 a6 a7:Value):Prop where
 c0:w.cell? ⟨b,0,none⟩=some a0
 c1:w.cell? ⟨b,1,none⟩=some a1
 c2:w.cell? ⟨b,2,none⟩=some a2
 c3:w.cell? ⟨b,3,none⟩=some a3
 c4:w.cell? ⟨b,4,none⟩=some a4
 c5:w.cell? ⟨b,5,none⟩=some a5
 c6:w.cell? ⟨b,6,none⟩=some a6
 c7:w.cell? ⟨b,7,none⟩=some a7
 fz:∀ j,w.frozen? ⟨b,j,none⟩=false
theorem C8.K {w w':World} {b:Nat} {a0 a1 a2 a3 D E y A:Value} (h:C8 w b a0 a1 a2 a3 D E y A) (u:w.grownBy w' none):C8 w' b a0 a1 a2 a3 D E y A:=
 ⟨u.cell h.c0 (by simp),u.cell h.c1 (by simp),u.cell h.c2 (by simp),u.cell h.c3 (by simp),u.cell h.c4 (by simp),u.cell h.c5 (by simp),u.cell h.c6 (by simp),u.cell h.c7 (by simp),
  fun j=>(World.frozen?_of_block (u.block b (World.block_lt_of_cell? w _ h.c0) (by simp))).trans (h.fz j)⟩
theorem C8.p1 {w:World} {b:Nat} {a0 a1 a2 a3 A D u y:Value} (h:C8 w b a0 a1 a2 a3 A D u y) (x:Value):C8 (w.setCell ⟨b,1,none⟩ x) b a0 x a2 a3 A D u y:=by
 obtain ⟨N,O,L,M,H,J,E,S,G⟩:=h;exact ⟨by simp [go_sem,N],by simp [go_sem,O],by simp [go_sem,L],by simp [go_sem,M],by simp [go_sem,H],by simp [go_sem,J],by simp [go_sem,E],by simp [go_sem,S],fun j=>by simpa using G j⟩
theorem C8.p2 {w:World} {b:Nat} {a0 a1 a2 a3 A D u y:Value} (h:C8 w b a0 a1 a2 a3 A D u y) (x:Value):C8 (w.setCell ⟨b,2,none⟩ x) b a0 a1 x a3 A D u y:=by
 obtain ⟨N,O,L,M,H,J,E,S,G⟩:=h;exact ⟨by simp [go_sem,N],by simp [go_sem,O],by simp [go_sem,L],by simp [go_sem,M],by simp [go_sem,H],by simp [go_sem,J],by simp [go_sem,E],by simp [go_sem,S],fun j=>by simpa using G j⟩
theorem C8.p3 {w:World} {b:Nat} {a0 a1 a2 a3 A D u y:Value} (h:C8 w b a0 a1 a2 a3 A D u y) (x:Value):C8 (w.setCell ⟨b,3,none⟩ x) b a0 a1 a2 x A D u y:=by
 obtain ⟨N,O,L,M,H,J,E,S,G⟩:=h;exact ⟨by simp [go_sem,N],by simp [go_sem,O],by simp [go_sem,L],by simp [go_sem,M],by simp [go_sem,H],by simp [go_sem,J],by simp [go_sem,E],by simp [go_sem,S],fun j=>by simpa using G j⟩
theorem C8.p4 {w:World} {b:Nat} {a0 a1 a2 a3 O A u y:Value} (h:C8 w b a0 a1 a2 a3 O A u y) (x:Value):C8 (w.setCell ⟨b,4,none⟩ x) b a0 a1 a2 a3 x A u y:=by
 obtain ⟨M,N,J,L,G,H,D,S,E⟩:=h;exact ⟨by simp [go_sem,M],by simp [go_sem,N],by simp [go_sem,J],by simp [go_sem,L],by simp [go_sem,G],by simp [go_sem,H],by simp [go_sem,D],by simp [go_sem,S],fun j=>by simpa using E j⟩
theorem C8.p5 {w:World} {b:Nat} {a0 a1 a2 a3 A O u y:Value} (h:C8 w b a0 a1 a2 a3 A O u y) (x:Value):C8 (w.setCell ⟨b,5,none⟩ x) b a0 a1 a2 a3 A x u y:=by
 obtain ⟨M,N,J,L,G,H,D,S,E⟩:=h;exact ⟨by simp [go_sem,M],by simp [go_sem,N],by simp [go_sem,J],by simp [go_sem,L],by simp [go_sem,G],by simp [go_sem,H],by simp [go_sem,D],by simp [go_sem,S],fun j=>by simpa using E j⟩
theorem C8.p6 {w:World} {b:Nat} {a0 a1 a2 a3 y A H u:Value} (h:C8 w b a0 a1 a2 a3 y A H u) (x:Value):C8 (w.setCell ⟨b,6,none⟩ x) b a0 a1 a2 a3 y A x u:=by
 obtain ⟨N,O,L,M,G,J,D,S,E⟩:=h;exact ⟨by simp [go_sem,N],by simp [go_sem,O],by simp [go_sem,L],by simp [go_sem,M],by simp [go_sem,G],by simp [go_sem,J],by simp [go_sem,D],by simp [go_sem,S],fun j=>by simpa using E j⟩
theorem C8.p7 {w:World} {b:Nat} {a0 a1 a2 a3 y A u L:Value} (h:C8 w b a0 a1 a2 a3 y A u L) (x:Value):C8 (w.setCell ⟨b,7,none⟩ x) b a0 a1 a2 a3 y A u x:=by
 obtain ⟨N,O,J,M,G,H,D,S,E⟩:=h;exact ⟨by simp [go_sem,N],by simp [go_sem,O],by simp [go_sem,J],by simp [go_sem,M],by simp [go_sem,G],by simp [go_sem,H],by simp [go_sem,D],by simp [go_sem,S],fun j=>by simpa using E j⟩
theorem C8.other {w:World} {b:Nat} {a0 a1 a2 a3 G H D E:Value} (h:C8 w b a0 a1 a2 a3 G H D E) (A j:Nat) (x:Value) (J:b≠A):C8 (w.setCell ⟨A,j,none⟩ x) b a0 a1 a2 a3 G H D E:=by
 have y:w.grownBy (w.setCell ⟨A,j,none⟩ x) (some A):=⟨rfl,rfl,rfl,by simp,fun i _ u=>Below.heap_setCell _ _ _ _ (fun e=>u (by rw [e]))⟩;have u:some b≠some A:=fun e=>J (Option.some.inj e)
 exact ⟨y.cell h.c0 u,y.cell h.c1 u,y.cell h.c2 u,y.cell h.c3 u,y.cell h.c4 u,y.cell h.c5 u,y.cell h.c6 u,y.cell h.c7 u,
  fun i=>(World.frozen?_of_block (y.block b (World.block_lt_of_cell? w _ h.c0) u)).trans (h.fz i)⟩
theorem aFq (p:Nod) (lv kv xv uv tv:Value) (w:World) (h:NRd w.heap.size w p lv kv xv uv tv) (j4:NOk p) :
  Calls prog 46 #[.agg #[.int .i64 p.k,lv,.bool p.mem,kv,xv,uv,.int .i64 p.C,tv]] w fun e w'=>∃ j1 i1 j3 j0 tv',e=.returned (.agg #[.int .i64 p.k,j1,.bool p.mem,i1,j3,j0,.int .i64 p.C,tv'])/\
   (OwC w.heap.size w' j1 p.L/\OwI w.heap.size w' i1 p.key/\OwB w.heap.size w' j3 p.X/\OwI w.heap.size w' j0 p.U/\OwC w.heap.size w' tv' p.tail)/\w.grownBy w' none:=by
 obtain ⟨la,a4,l7,_,_⟩:=h.rl.sl;obtain ⟨ta,a6,k3,_,_⟩:=h.rt.sl;obtain ⟨ka,Z,k6,_⟩:=id h.rk;obtain ⟨xa,a5,l0,_⟩:=id h.rx;obtain ⟨ua,Y,k9,_⟩:=id h.ru;have H:=aB (fun W (hW:Below w.heap.size w W)=>(h.K (aC hW)).wide hW.size);have HO:=aB j4;subst l7 k3 k6 l0 k9;clear h j4;have B0:Below w.heap.size w (((w.alloc (.cells #[.int .i64 p.k,.slice la p.L.length a4,.bool p.mem,.slice ka p.key.length Z,.slice xa p.X.length a5,.slice ua p.U.length Y,.int .i64 p.C,.slice ta p.tail.length a6] 66)).alloc (.cells #[.int .i64 0,.slice none 0 0,.bool false,.slice none 0 0,.slice none 0 0,.slice none 0 0,.int .i64 0,.slice none 0 0] 49)).alloc (.cells #[.int .i64 p.k,.slice none 0 0,.bool false,.slice none 0 0,.slice none 0 0,.slice none 0 0,.int .i64 0,.slice none 0 0] 49)):=(((Below.refl w.heap.size w).alloc (Nat.le_refl _) _).alloc (by simp) _).alloc (by simp;omega) _
 have A0:C8 (((w.alloc (.cells #[.int .i64 p.k,.slice la p.L.length a4,.bool p.mem,.slice ka p.key.length Z,.slice xa p.X.length a5,.slice ua p.U.length Y,.int .i64 p.C,.slice ta p.tail.length a6] 66)).alloc (.cells #[.int .i64 0,.slice none 0 0,.bool false,.slice none 0 0,.slice none 0 0,.slice none 0 0,.int .i64 0,.slice none 0 0] 49)).alloc (.cells #[.int .i64 p.k,.slice none 0 0,.bool false,.slice none 0 0,.slice none 0 0,.slice none 0 0,.int .i64 0,.slice none 0 0] 49)) w.heap.size (.int .i64 p.k) (.slice la p.L.length a4) (.bool p.mem) (.slice ka p.key.length Z) (.slice xa p.X.length a5) (.slice ua p.U.length Y) (.int .i64 p.C) (.slice ta p.tail.length a6):=
  ⟨by simp [go_sem],by simp [go_sem],by simp [go_sem],by simp [go_sem],by simp [go_sem],by simp [go_sem],by simp [go_sem],by simp [go_sem],fun j=>by simp [go_sem]⟩
 have R0:C8 (((w.alloc (.cells #[.int .i64 p.k,.slice la p.L.length a4,.bool p.mem,.slice ka p.key.length Z,.slice xa p.X.length a5,.slice ua p.U.length Y,.int .i64 p.C,.slice ta p.tail.length a6] 66)).alloc (.cells #[.int .i64 0,.slice none 0 0,.bool false,.slice none 0 0,.slice none 0 0,.slice none 0 0,.int .i64 0,.slice none 0 0] 49)).alloc (.cells #[.int .i64 p.k,.slice none 0 0,.bool false,.slice none 0 0,.slice none 0 0,.slice none 0 0,.int .i64 0,.slice none 0 0] 49)) (w.heap.size+1) (.int .i64 0) (.slice none 0 0) (.bool false) (.slice none 0 0) (.slice none 0 0) (.slice none 0 0) (.int .i64 0) (.slice none 0 0):=
  ⟨by simp [go_sem],by simp [go_sem],by simp [go_sem],by simp [go_sem],by simp [go_sem],by simp [go_sem],by simp [go_sem],by simp [go_sem],fun j=>by simp [go_sem]⟩
 have X0:C8 (((w.alloc (.cells #[.int .i64 p.k,.slice la p.L.length a4,.bool p.mem,.slice ka p.key.length Z,.slice xa p.X.length a5,.slice ua p.U.length Y,.int .i64 p.C,.slice ta p.tail.length a6] 66)).alloc (.cells #[.int .i64 0,.slice none 0 0,.bool false,.slice none 0 0,.slice none 0 0,.slice none 0 0,.int .i64 0,.slice none 0 0] 49)).alloc (.cells #[.int .i64 p.k,.slice none 0 0,.bool false,.slice none 0 0,.slice none 0 0,.slice none 0 0,.int .i64 0,.slice none 0 0] 49)) (w.heap.size+1+1) (.int .i64 p.k) (.slice none 0 0) (.bool false) (.slice none 0 0) (.slice none 0 0) (.slice none 0 0) (.int .i64 0) (.slice none 0 0):=
  ⟨by simp [go_sem],by simp [go_sem],by simp [go_sem],by simp [go_sem],by simp [go_sem],by simp [go_sem],by simp [go_sem],by simp [go_sem],fun j=>by simp [go_sem]⟩
 have HL:=aB (mU _ p.L _ (H.out _ B0).rl HO.out.L HO.out.leads);have h1:=aB B0;have i4:=aB A0;have k0:=aB R0;have i5:=aB X0;have i6:(((w.alloc (.cells #[.int .i64 p.k,.slice la p.L.length a4,.bool p.mem,.slice ka p.key.length Z,.slice xa p.X.length a5,.slice ua p.U.length Y,.int .i64 p.C,.slice ta p.tail.length a6] 66)).alloc (.cells #[.int .i64 0,.slice none 0 0,.bool false,.slice none 0 0,.slice none 0 0,.slice none 0 0,.int .i64 0,.slice none 0 0] 49)).alloc (.cells #[.int .i64 p.k,.slice none 0 0,.bool false,.slice none 0 0,.slice none 0 0,.slice none 0 0,.int .i64 0,.slice none 0 0] 49)).heap.size=w.heap.size+3:=(by simp);have k8:=aB i6;clear B0 A0 R0 X0 i6
 go_enter func46,ntmps46
 go_wp2_with fail
 refine HL.out.mono ?_;rintro e w1 ⟨v1,rfl,o1,g1⟩;rw [k8.out] at o1;have A1:=i4.out.K g1;have R1:=k0.out.K g1;have X1:=i5.out.K g1;have B1:=h1.out.grown g1 h1.out.size (fun k e=>by cases e);obtain ⟨b2,M,k5,_,_⟩:=o1.rd.sl;subst k5;have h9:=aB ((A1.other (w.heap.size+1+1) 1 (.slice b2 p.L.length M) (by omega)).other (w.heap.size+1+1) 2 (.bool p.mem) (by omega));have j9:=aB ((R1.other (w.heap.size+1+1) 1 (.slice b2 p.L.length M) (by omega)).other (w.heap.size+1+1) 2 (.bool p.mem) (by omega));have j7:=aB ((X1.p1 (.slice b2 p.L.length M)).p2 (.bool p.mem));have c2:=aB ((B1.setCell (p:=⟨w.heap.size+1+1,1,none⟩) (by simp only;omega) (.slice b2 p.L.length M)).setCell (p:=⟨w.heap.size+1+1,2,none⟩) (by simp only;omega) (.bool p.mem));have u:=aB ((o1.set (w.heap.size+1+1) 1 (.slice b2 p.L.length M) (by omega)).set (w.heap.size+1+1) 2 (.bool p.mem) (by omega));have J:=aB u.out;clear u;obtain ⟨z0,z1,z2,z3,z4,z5,z6,z7,zf⟩:=A1;obtain ⟨y0,y1,y2,y3,y4,y5,y6,y7,yf⟩:=X1;obtain ⟨r0,r1,r2,r3,r4,r5,r6,r7,rf⟩:=R1;clear B1 o1 g1 i4 k0 i5 h1;have c8:w.heap.size+3<=w1.heap.size:=by have:=World.block_lt_of_cell? w1 _ y0;simp only at this;omega
 go_wp2_with fail
 refine (aAA _ p.key _ (H.out _ c2.out).rk (by have:=HO.out.key;omega)).mono ?_;rintro e w2 ⟨v2,rfl,q2,g2⟩;have o2:Ow _ _ (w.heap.size+3) w2 v2 p.key:=bH (by simpa using c8) q2;clear q2 z0 z1 z2 z3 z4 z5 z6 z7 zf y0 y1 y2 y3 y4 y5 y6 y7 yf r0 r1 r2 r3 r4 r5 r6 r7 rf c8;have A2:=h9.out.K g2;have R2:=j9.out.K g2;have X2:=j7.out.K g2;have B2:=c2.out.grown g2 c2.out.size (fun k e=>by cases e);obtain ⟨b1,G,l3,_⟩:=o2.rd;subst l3;have i7:=aB (A2.other (w.heap.size+1+1) 3 (.slice b1 p.key.length G) (by omega));have j5:=aB (R2.other (w.heap.size+1+1) 3 (.slice b1 p.key.length G) (by omega));have j6:=aB (X2.p3 (.slice b1 p.key.length G));have b6:=aB (B2.setCell (p:=⟨w.heap.size+1+1,3,none⟩) (by simp only;omega) (.slice b1 p.key.length G));have u:=aB ((J.out.later g2).set (w.heap.size+1+1) 3 (.slice b1 p.key.length G) (by omega));have D:=aB (o2.setC ⟨w.heap.size+1+1,3,none⟩ (.slice b1 p.key.length G) (by simp only;omega));clear J;have J:=aB u.out;clear u;have O:=aB D.out;clear D;obtain ⟨z0,z1,z2,z3,z4,z5,z6,z7,zf⟩:=A2;obtain ⟨y0,y1,y2,y3,y4,y5,y6,y7,yf⟩:=X2;obtain ⟨r0,r1,r2,r3,r4,r5,r6,r7,rf⟩:=R2;clear B2 o2 g2 h9 j9 j7 c2;have d2:w.heap.size+3<=w2.heap.size:=by have:=World.block_lt_of_cell? w2 _ y0;simp only at this;omega
 go_wp2_with fail
 refine (xV _ p.X _ (H.out _ b6.out).rx (by have:=HO.out.X;omega)).mono ?_;rintro e w3 ⟨v3,rfl,q3,g3⟩;have o3:Ow _ _ (w.heap.size+3) w3 v3 p.X:=bH (by simpa using d2) q3;clear q3 z0 z1 z2 z3 z4 z5 z6 z7 zf y0 y1 y2 y3 y4 y5 y6 y7 yf r0 r1 r2 r3 r4 r5 r6 r7 rf d2;have A3:=i7.out.K g3;have R3:=j5.out.K g3;have X3:=j6.out.K g3;have B3:=b6.out.grown g3 b6.out.size (fun k e=>by cases e);obtain ⟨a9,E,l6,_⟩:=o3.rd;subst l6;have j8:=aB (A3.other (w.heap.size+1+1) 4 (.slice a9 p.X.length E) (by omega));have i3:=aB (R3.other (w.heap.size+1+1) 4 (.slice a9 p.X.length E) (by omega));have i0:=aB (X3.p4 (.slice a9 p.X.length E));have b4:=aB (B3.setCell (p:=⟨w.heap.size+1+1,4,none⟩) (by simp only;omega) (.slice a9 p.X.length E));have u:=aB ((J.out.later g3).set (w.heap.size+1+1) 4 (.slice a9 p.X.length E) (by omega));have D:=aB ((Ow.later O.out g3).setC ⟨w.heap.size+1+1,4,none⟩ (.slice a9 p.X.length E) (by simp only;omega));have N:=aB (o3.setC ⟨w.heap.size+1+1,4,none⟩ (.slice a9 p.X.length E) (by simp only;omega));clear J;clear O;have J:=aB u.out;clear u;have O:=aB D.out;clear D;have b0:=aB N.out;clear N;obtain ⟨z0,z1,z2,z3,z4,z5,z6,z7,zf⟩:=A3;obtain ⟨y0,y1,y2,y3,y4,y5,y6,y7,yf⟩:=X3;obtain ⟨r0,r1,r2,r3,r4,r5,r6,r7,rf⟩:=R3;clear B3 o3 g3 i7 j5 j6 b6;have g0:w.heap.size+3<=w3.heap.size:=by have:=World.block_lt_of_cell? w3 _ y0;simp only at this;omega
 go_wp2_with fail
 refine (aAA _ p.U _ (H.out _ b4.out).ru (by have:=HO.out.U;omega)).mono ?_;rintro e w4 ⟨v4,rfl,q4,g4⟩;have o4:Ow _ _ (w.heap.size+3) w4 v4 p.U:=bH (by simpa using g0) q4;clear q4 z0 z1 z2 z3 z4 z5 z6 z7 zf y0 y1 y2 y3 y4 y5 y6 y7 yf r0 r1 r2 r3 r4 r5 r6 r7 rf g0;have A4:=j8.out.K g4;have R4:=i3.out.K g4;have X4:=i0.out.K g4;have B4:=b4.out.grown g4 b4.out.size (fun k e=>by cases e);obtain ⟨a7,A,l1,_⟩:=o4.rd;subst l1;have j2:=aB ((A4.other (w.heap.size+1+1) 5 (.slice a7 p.U.length A) (by omega)).other (w.heap.size+1+1) 6 (.int .i64 p.C) (by omega));have i9:=aB ((R4.other (w.heap.size+1+1) 5 (.slice a7 p.U.length A) (by omega)).other (w.heap.size+1+1) 6 (.int .i64 p.C) (by omega));have i2:=aB ((X4.p5 (.slice a7 p.U.length A)).p6 (.int .i64 p.C));have c1:=aB ((B4.setCell (p:=⟨w.heap.size+1+1,5,none⟩) (by simp only;omega) (.slice a7 p.U.length A)).setCell (p:=⟨w.heap.size+1+1,6,none⟩) (by simp only;omega) (.int .i64 p.C));have u:=aB (((J.out.later g4).set (w.heap.size+1+1) 5 (.slice a7 p.U.length A) (by omega)).set (w.heap.size+1+1) 6 (.int .i64 p.C) (by omega));have D:=aB (((Ow.later O.out g4).setC ⟨w.heap.size+1+1,5,none⟩ (.slice a7 p.U.length A) (by simp only;omega)).setC ⟨w.heap.size+1+1,6,none⟩ (.int .i64 p.C) (by simp only;omega));have N:=aB (((Ow.later b0.out g4).setC ⟨w.heap.size+1+1,5,none⟩ (.slice a7 p.U.length A) (by simp only;omega)).setC ⟨w.heap.size+1+1,6,none⟩ (.int .i64 p.C) (by simp only;omega));have a8:=aB ((o4.setC ⟨w.heap.size+1+1,5,none⟩ (.slice a7 p.U.length A) (by simp only;omega)).setC ⟨w.heap.size+1+1,6,none⟩ (.int .i64 p.C) (by simp only;omega));clear J;clear O;clear b0;have J:=aB u.out;clear u;have O:=aB D.out;clear D;have b0:=aB N.out;clear N;have b5:=aB a8.out;clear a8;obtain ⟨z0,z1,z2,z3,z4,z5,z6,z7,zf⟩:=A4;obtain ⟨y0,y1,y2,y3,y4,y5,y6,y7,yf⟩:=X4;obtain ⟨r0,r1,r2,r3,r4,r5,r6,r7,rf⟩:=R4;clear B4 o4 g4 j8 i3 i0 b4;have d5:w.heap.size+3<=w4.heap.size:=by have:=World.block_lt_of_cell? w4 _ y0;simp only at this;omega
 go_wp2_with fail
 refine (mU _ p.tail _ (H.out _ c1.out).rt HO.out.tail HO.out.tails).mono ?_;rintro e w5 ⟨v5,rfl,q5,g5⟩;have o5:=q5.base (B':=w.heap.size+3) (by simpa using d5);clear q5 z0 z1 z2 z3 z4 z5 z6 z7 zf y0 y1 y2 y3 y4 y5 y6 y7 yf r0 r1 r2 r3 r4 r5 r6 r7 rf d5;have A5:=j2.out.K g5;have R5:=i9.out.K g5;have X5:=i2.out.K g5;have B5:=c1.out.grown g5 c1.out.size (fun k e=>by cases e);obtain ⟨S,y,m1,_,_⟩:=o5.rd.sl;subst m1;have s3:=aB (A5.other (w.heap.size+1+1) 7 (.slice S p.tail.length y) (by omega));have s1:=aB (R5.other (w.heap.size+1+1) 7 (.slice S p.tail.length y) (by omega));have s0:=aB (X5.p7 (.slice S p.tail.length y));have k4:=aB (B5.setCell (p:=⟨w.heap.size+1+1,7,none⟩) (by simp only;omega) (.slice S p.tail.length y));have u:=aB ((J.out.later g5).set (w.heap.size+1+1) 7 (.slice S p.tail.length y) (by omega));have D:=aB ((Ow.later O.out g5).setC ⟨w.heap.size+1+1,7,none⟩ (.slice S p.tail.length y) (by simp only;omega));have N:=aB ((Ow.later b0.out g5).setC ⟨w.heap.size+1+1,7,none⟩ (.slice S p.tail.length y) (by simp only;omega));have a8:=aB ((Ow.later b5.out g5).setC ⟨w.heap.size+1+1,7,none⟩ (.slice S p.tail.length y) (by simp only;omega));have f4:=aB (o5.set (w.heap.size+1+1) 7 (.slice S p.tail.length y) (by omega));clear J;clear O;clear b0;clear b5;have J:=aB u.out;clear u;have O:=aB D.out;clear D;have b0:=aB N.out;clear N;have b5:=aB a8.out;clear a8;have l9:=aB f4.out;clear f4;obtain ⟨z0,z1,z2,z3,z4,z5,z6,z7,zf⟩:=A5;obtain ⟨y0,y1,y2,y3,y4,y5,y6,y7,yf⟩:=X5;obtain ⟨r0,r1,r2,r3,r4,r5,r6,r7,rf⟩:=R5;clear B5 o5 g5 j2 i9 i2 c1;go_wp2;refine bodyPost_ret (v:=.agg #[.int .i64 p.k,.slice b2 p.L.length M,.bool p.mem,.slice b1 p.key.length G,.slice a9 p.X.length E,.slice a7 p.U.length A,.int .i64 p.C,.slice S p.tail.length y]) (by simp [results,Tryz.results46,go_sem,r0,r1,r2,r3,r4,r5,r6,r7]) rfl ?_;refine ⟨_,_,_,_,_,rfl,⟨?_,?_,?_,?_,?_⟩,?_⟩
 ·exact ((((((((J.out.set (w.heap.size+1) 0 _ (by omega)).set (w.heap.size+1) 1 _ (by omega)).set (w.heap.size+1) 2 _ (by omega)).set (w.heap.size+1) 3 _ (by omega)).set (w.heap.size+1) 4 _ (by omega)).set (w.heap.size+1) 5 _ (by omega)).set (w.heap.size+1) 6 _ (by omega)).set (w.heap.size+1) 7 _ (by omega)).base (by omega)
 ·exact bH (by omega) ((((((((O.out.setC ⟨w.heap.size+1,0,none⟩ _ (by simp only;omega)).setC ⟨w.heap.size+1,1,none⟩ _ (by simp only;omega)).setC ⟨w.heap.size+1,2,none⟩ _ (by simp only;omega)).setC ⟨w.heap.size+1,3,none⟩ _ (by simp only;omega)).setC ⟨w.heap.size+1,4,none⟩ _ (by simp only;omega)).setC ⟨w.heap.size+1,5,none⟩ _ (by simp only;omega)).setC ⟨w.heap.size+1,6,none⟩ _ (by simp only;omega)).setC ⟨w.heap.size+1,7,none⟩ _ (by simp only;omega))
 ·exact bH (by omega) ((((((((b0.out.setC ⟨w.heap.size+1,0,none⟩ _ (by simp only;omega)).setC ⟨w.heap.size+1,1,none⟩ _ (by simp only;omega)).setC ⟨w.heap.size+1,2,none⟩ _ (by simp only;omega)).setC ⟨w.heap.size+1,3,none⟩ _ (by simp only;omega)).setC ⟨w.heap.size+1,4,none⟩ _ (by simp only;omega)).setC ⟨w.heap.size+1,5,none⟩ _ (by simp only;omega)).setC ⟨w.heap.size+1,6,none⟩ _ (by simp only;omega)).setC ⟨w.heap.size+1,7,none⟩ _ (by simp only;omega))
 ·exact bH (by omega) ((((((((b5.out.setC ⟨w.heap.size+1,0,none⟩ _ (by simp only;omega)).setC ⟨w.heap.size+1,1,none⟩ _ (by simp only;omega)).setC ⟨w.heap.size+1,2,none⟩ _ (by simp only;omega)).setC ⟨w.heap.size+1,3,none⟩ _ (by simp only;omega)).setC ⟨w.heap.size+1,4,none⟩ _ (by simp only;omega)).setC ⟨w.heap.size+1,5,none⟩ _ (by simp only;omega)).setC ⟨w.heap.size+1,6,none⟩ _ (by simp only;omega)).setC ⟨w.heap.size+1,7,none⟩ _ (by simp only;omega))
 ·exact ((((((((l9.out.set (w.heap.size+1) 0 _ (by omega)).set (w.heap.size+1) 1 _ (by omega)).set (w.heap.size+1) 2 _ (by omega)).set (w.heap.size+1) 3 _ (by omega)).set (w.heap.size+1) 4 _ (by omega)).set (w.heap.size+1) 5 _ (by omega)).set (w.heap.size+1) 6 _ (by omega)).set (w.heap.size+1) 7 _ (by omega)).base (by omega)
 ·exact aC ((((((((k4.out.setCell (p:=⟨w.heap.size+1,0,none⟩) (by simp only;omega) _).setCell (p:=⟨w.heap.size+1,1,none⟩) (by simp only;omega) _).setCell (p:=⟨w.heap.size+1,2,none⟩) (by simp only;omega) _).setCell (p:=⟨w.heap.size+1,3,none⟩) (by simp only;omega) _).setCell (p:=⟨w.heap.size+1,4,none⟩) (by simp only;omega) _).setCell (p:=⟨w.heap.size+1,5,none⟩) (by simp only;omega) _).setCell (p:=⟨w.heap.size+1,6,none⟩) (by simp only;omega) _).setCell (p:=⟨w.heap.size+1,7,none⟩) (by simp only;omega) _)
theorem wU {P:Program} {w:World} (base:Nat) (t A e:TypeId) (i:TypeInfo) (size:Nat) (u:P.underlying t=some (.slice e)) (y:P.info? e=some i)
  (v:Value) (n:Nat) (xs:List Value) (h:w.ownsRow base e size v n xs) (c:Nat):(Builtin.append_ #[t,t] A #[v,.slice none 0 c]).run P w=.ok v w:=by
 rcases h.2 with ⟨rfl,rfl⟩ | ⟨g,cap,D,rfl,_,_,j,_⟩
 ·simp [Builtin.append_,run_underlying u,sizeOf,typeInfo,y,Builtin.lenOf,Builtin.firstCells]
 ·simp [Builtin.append_,run_underlying u,sizeOf,typeInfo,y,Builtin.lenOf,Builtin.firstCells,j,storeCells]
theorem rS {P:Program} {w:World} {ops:Array Oper} {rest:List Oper} {o:Oper} {a:Act} {Q:Exit->Act->World->Prop} (u:o.guard=none) (s x:Operand) (t:TypeId)
  (G:o.op=.call { callee:=.builtin .append,args:=#[s,x],argTypes:=#[t,t] }) (v A y:Value) (w':World) (H:a.eval s=v) (E:a.eval x=A)
  (j:(Builtin.append_ #[t,t] o.type #[v,A]).run P w=.ok y w') (h:wpList P ops Q rest (a.put o.dst y) w'):wpList P ops Q (o::rest) a w:=by
 refine wpList_plain u fun K D=>?_;unfold Oper.wp;simp only [execOp,G,resolve,invoke,builtin,Sem.run_bind,Sem.run_pure,Result.andThen_ok,List.map_toArray,List.map_cons,List.map_nil,H,E,j];exact D _ _ h
theorem uR (B B':Nat) (w:World) (v tv:Value) (ys t:List Int) (h:Ow .u8 5 B w v ys) (M:Rd .u8 B' w tv t) (hB:B<=w.heap.size) (hn:ys.length+t.length<=100000000000) :
  ∃ D w',(Builtin.append_ #[27,27] 27 #[v,tv]).run prog w=.ok D w'/\Ow .u8 5 B w' D (ys++t)/\w.grownBy w' v.ownBlock/\(D.ownBlock=v.ownBlock\/D.ownBlock=some w.heap.size):=by
 obtain ⟨U,S,H,L,N⟩:=info_parts lL;obtain ⟨a,cap,G,X⟩:=M;subst G;cases a with
 | none=>
   have ht:t=[]:=by
    rcases t with _ | ⟨z,zs⟩
    ·rfl
    ·obtain ⟨b,off,J,_⟩:=X (by simp);cases J
   subst ht;exact ⟨v,w,wU B _ _ _ U 1 underlying27 S v _ _ h cap,by simpa using h,World.grownBy.refl _ _,.inl rfl⟩
 | some ad=>
   have A:∀ j u,(t.map (Value.int .u8))[j]?=some u->w.cell? (ad.add j)=some u:=by
    intro j u O;have y:j<t.length:=(by have:=(List.getElem?_eq_some_iff.1 O).1;simpa using this);obtain ⟨b2,Z,J,_,hc⟩:=X (fun e=>by rw [e] at y;simp at y);cases J;rw [Addr.add_lit,hc j y];simpa [y] using O
   obtain ⟨D,w',E,h1,h2,_,h4⟩:=run_append_own_at (P:=prog) w B 27 27 5 U (.int .u8 0) 1 1 underlying27 S H L N rfl (by decide) v ys.length (ys.map (Value.int .u8)) h ad t.length cap (t.map (Value.int .u8)) (by simp) A
    (by intro u Y;simp only [List.mem_map] at Y;obtain ⟨z,_,rfl⟩:=Y;rfl) (by unfold maxLen;omega) (by omega) hB
   exact ⟨D,w',E,by unfold Ow;simpa using h1,h2,h4⟩
theorem aCD (a:Option Addr) (n cap:Nat) (j:Value) (w w':World) (h:(Builtin.append_ #[27,27] 27 #[.slice none 0 0,.slice a n cap]).run prog w=.ok j w') :
  Calls prog 103 #[.slice a n cap] w fun e u=>e=.returned j/\w'=u:=by
 go_enter func103,ntmps103
 go_wp2_with (at_builtin;refine rS rfl _ _ _ rfl _ _ _ _ rfl rfl h ?_)
 go_ret;exact ⟨rfl,rfl⟩
theorem aAF (v:Value) (zs:List Int) (w:World) (hv:Rd .u8 w.heap.size w v zs) (D:zs.length<=4194304) :
  Calls prog 103 #[v] w fun e w'=>∃ j,e=.returned j/\Ow .u8 5 w.heap.size w' j zs/\w.grownBy w' none:=by
 obtain ⟨j,w',h,y,A,_⟩:=uR w.heap.size w.heap.size w (.slice none 0 0) v [] zs ⟨by simp,.inl ⟨rfl,rfl⟩⟩ hv (Nat.le_refl _) (by simp;omega);obtain ⟨a,cap,u,_⟩:=id hv;subst u;refine (aCD a zs.length cap j w w' h).mono ?_;rintro e E ⟨rfl,rfl⟩;exact ⟨j,rfl,by simpa using y,A⟩
theorem sP (w:World) (a:Addr) (u:Value):w.grownBy (w.setCell a u) (some a.block):=
 ⟨rfl,rfl,rfl,by simp,fun k _ h=>heap_setCell_other w a k u (fun e=>h (by simp [e]))⟩
theorem dP {B:Nat} {w:World} {e:TypeId} {size n:Nat} {v:Value} {xs:List Value} (h:w.ownsRow B e size v n xs) (a:Addr) (u:Value) (j:v.ownBlock≠some a.block):(w.setCell a u).ownsRow B e size v n xs:=
 World.ownsRow.kept h (sP w a u) (.inr j)
theorem uK {W j:World} {a:Addr} {v:Value} (u:W.grownBy j none) (h:W.cell? a=some v) (y:W.frozen? a=false):j.cell? a=some v/\j.frozen? a=false:=
 ⟨u.cell h (by simp),(World.frozen?_of_block (u.block a.block (World.block_lt_of_cell? W a h) (by simp))).trans y⟩
structure aIs (B:Nat) (w:World) (b o:Nat) (p:Pc) (tv:Value):Prop where
 k:w.cell? ⟨b,o,none⟩=some (.int .i64 p.k)
 t:w.cell? ⟨b,o+1,none⟩=some tv
 n:w.cell? ⟨b,o+2,none⟩=some (.int .i64 p.n)
 rd:RdB B w tv p.t
 sl:Sl tv p.t.length
def RdP (B:Nat) (w:World) (v:Value) (doc:List Pc):Prop:=
 ∃ a cap,v=.slice a doc.length cap/\doc.length<=cap/\cap<=maxLen/\(doc≠[]->∃ b off,a=some ⟨b,off,none⟩/\b<B/\∀ j p,doc[j]?=some p->∃ tv,aIs B w b (off+j*3) p tv)
theorem aIs.beside {B:Nat} {w w':World} {b o:Nat} {p:Pc} {tv:Value} {j:Option Nat} (h:aIs B w b o p tv) (D:b<B) (u:w.grownBy w' j) (A:∀ k,j=some k->B<=k):aIs B w' b o p tv:=
 have y:some b≠j:=fun e=>by have:=A b e.symm;omega
 ⟨u.cell h.k y,u.cell h.t y,u.cell h.n y,h.rd.beside u A,h.sl⟩
theorem RdP.beside {B:Nat} {w w':World} {v:Value} {doc:List Pc} {u:Option Nat} (h:RdP B w v doc) (L:w.grownBy w' u) (H:∀ k,u=some k->B<=k):RdP B w' v doc:=by
 obtain ⟨a,cap,hv,G,N,D⟩:=h;refine ⟨a,cap,hv,G,N,fun O=>?_⟩;obtain ⟨b,off,M,y,A⟩:=D O;refine ⟨b,off,M,y,fun j p J=>?_⟩;obtain ⟨tv,E⟩:=A j p J;exact ⟨tv,E.beside y L H⟩
theorem RdP.K {B:Nat} {w w':World} {v:Value} {doc:List Pc} (h:RdP B w v doc) (j:w.grownBy w' none):RdP B w' v doc:=h.beside j (fun _ e=>by cases e)
theorem Rd.wide {q:IntKind} {B B':Nat} {w:World} {v:Value} {zs:List Int} (h:Rd q B w v zs) (D:B<=B'):Rd q B' w v zs:=by
 obtain ⟨a,cap,hv,u⟩:=h;refine ⟨a,cap,hv,fun A=>?_⟩;obtain ⟨b,off,y,E,j⟩:=u A;exact ⟨b,off,y,by omega,j⟩
theorem RdP.wide {B B':Nat} {w:World} {v:Value} {doc:List Pc} (h:RdP B w v doc) (y:B<=B'):RdP B' w v doc:=by
 obtain ⟨a,cap,hv,E,J,D⟩:=h;refine ⟨a,cap,hv,E,J,fun L=>?_⟩;obtain ⟨b,off,H,M,A⟩:=D L;refine ⟨b,off,H,by omega,fun j p G=>?_⟩;obtain ⟨tv,u⟩:=A j p G;exact ⟨tv,⟨u.k,u.t,u.n,u.rd.wide y,u.sl⟩⟩
theorem RdP.at {B:Nat} {w:World} {v:Value} {doc:List Pc} (h:RdP B w v doc) (j:Nat) (u:j<doc.length) :
  ∃ b off cap tv,v=.slice (some ⟨b,off,none⟩) doc.length cap/\b<B/\aIs B w b (off+j*3) doc[j] tv:=by
 obtain ⟨a,cap,hv,H,J,A⟩:=h;obtain ⟨b,off,G,E,y⟩:=A (fun e=>by rw [e] at u;simp at u);obtain ⟨tv,D⟩:=y j doc[j] (by simp [u]);exact ⟨b,off,cap,tv,by rw [hv,G],E,D⟩
end Go.Proofs.YtgifkcpdihphlaaGreatDoor
