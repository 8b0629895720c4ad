import Derived.Test.YtgifkcpdihphlaaGreatDoorCards
import Derived.Test.YtgifkcpdihphlaaGreatDoorTie
import Derived.Shelf.Vars
import Derived.WalkSmall
import Derived.Deep.DeepHandedRow
import Derived.Lib.LaidTab
import Derived.Test.YtgifkcpdihphlaaGreatDoorMBX
set_option maxHeartbeats 16000000
set_option maxRecDepth 100000
namespace Go.Proofs.YtgifkcpdihphlaaGreatDoor
open Go.Proofs.Tryz
open Go.RowKit
def qP (w:World) (B:Nat) (l:List (Addr × Kd)):Prop:=∀ y∈l,(nE w y.1 y.2/\w.frozen? y.1=false)/\B<=y.1.block/\y.1.block<w.heap.size
theorem qP.ok {w:World} {B:Nat} {l:List (Addr × Kd)} (h:qP w B l):dD w l:=fun y j=>(h y j).1
theorem qP.base {w:World} {B B':Nat} {l:List (Addr × Kd)} (h:qP w B l) (u:B'<=B):qP w B' l:=fun y j=>⟨(h y j).1,by have:=(h y j).2;omega⟩
theorem qP.app {w:World} {B:Nat} {l u:List (Addr × Kd)} (h:qP w B l) (A:qP w B u):qP w B (l++u):=fun y j=>by
 rcases List.mem_append.1 j with j | j
 ·exact h y j
 ·exact A y j
def gF:Value->Lis
 | .slice a n c=>(a,n,c)
 | _=>(none,0,0)
theorem aKT {q:Kd} {a:Option Addr} {n:Nat} {y:Addr × Kd} (h:y∈trL q a n):∃ u j,a=some u/\j<n/\y=(u.add j,q):=by
 cases a with
 | none=>simp [trL] at h
 | some u=>
   simp only [trL,List.mem_map,List.mem_range] at h;obtain ⟨j,A,rfl⟩:=h;exact ⟨u,j,rfl,A,rfl⟩
theorem aIa {q:IntKind} {t:TypeId} {B:Nat} {w:World} {v:Value} {zs:List Int} (D:Kd) (L:∀ x z,w.cell? x=some (.int q z)->nE w x D) (h:Ow q t B w v zs) (J:zs.length<=1048576) :
  (gF v).ok/\(gF v).v=v/\(gF v).2.1=zs.length/\qP w B (trL D (gF v).1 (gF v).2.1):=by
 rcases h.2 with ⟨hv,Y⟩ | ⟨g,cap,M,hv,S,O,N,X,U,Z⟩
 ·subst hv;refine ⟨⟨.inl rfl,by simp [gF]⟩,rfl,by simp [gF,Y],fun y u=>by simp [gF,trL] at u⟩
 ·subst hv;refine ⟨⟨.inr ⟨g,0,rfl⟩,J⟩,rfl,rfl,fun y u=>?_⟩;obtain ⟨ad,j,E,A,rfl⟩:=aKT u;simp only [gF] at E A;cases E;have G:=World.ownsRow.cellAt h j (by simpa using A);have H:=World.ownsRow.frozenAt h j;simp only [Addr.add_lit,Nat.zero_add];refine ⟨⟨L _ (zs[j]) (by rw [G];simp [A]),H⟩,S,?_⟩;exact (Array.getElem?_eq_some_iff.1 O).1
theorem aDb {B:Nat} {w:World} {v:Value} {zs:List Int} (h:OwB B w v zs) (j:zs.length<=1048576) :
  (gF v).ok/\(gF v).v=v/\(gF v).2.1=zs.length/\qP w B (trL .b (gF v).1 (gF v).2.1):=aIa .b (fun _ z h=>⟨z,h⟩) h j
theorem aGv {B:Nat} {w:World} {v:Value} {zs:List Int} (h:OwI B w v zs) (j:zs.length<=1048576) :
  (gF v).ok/\(gF v).v=v/\(gF v).2.1=zs.length/\qP w B (trL .i (gF v).1 (gF v).2.1):=aIa .i (fun _ z h=>⟨z,h⟩) h j
theorem aF9 (b:Nat):∀ (xs:List Lis) (off:Nat) (y:Addr × Kd),y∈trC b off xs->∃ (j:Nat) (x:Lis),xs[j]?=some x/\(y=(⟨b,off+j*2,none⟩,.o)\/y∈trL .b x.1 x.2.1)
 | [],_,y,h=>by simp [trC] at h
 | x::xs,off,y,h=>by
   simp only [trC,List.mem_cons,List.mem_append] at h;rcases h with h | h | h
   ·exact ⟨0,x,rfl,.inl (by simpa using h)⟩
   ·exact ⟨0,x,rfl,.inr h⟩
   ·obtain ⟨j,u,D,A⟩:=aF9 b xs (off+2) y h;refine ⟨j+1,u,by simpa using D,?_⟩;rw [show off+(j+1)*2=off+2+j*2 by omega];exact A
theorem aEr (b:Nat):∀ (u:List Nsh) (off:Nat) (y:Addr × Kd),y∈jN b off u->∃ (j:Nat) (n:Nsh),u[j]?=some n/\y∈trN b (off+j*8) n
 | [],_,y,h=>by simp [jN] at h
 | x::xs,off,y,h=>by
   simp only [jN,List.mem_append] at h;rcases h with h | h
   ·exact ⟨0,x,rfl,by simpa using h⟩
   ·obtain ⟨j,A,E,D⟩:=aEr b xs (off+8) y h;refine ⟨j+1,A,by simpa using E,?_⟩;rw [show off+(j+1)*8=off+8+j*8 by omega];exact D
theorem aCt (q:Kd) (a:Option Addr) (n:Nat):(trL q a n).length<=n:=by cases a<;>simp [trL]
theorem aFX (b:Nat):∀ (xs:List Lis) (off:Nat),(∀ x∈xs,x.2.1<=1048576)->(trC b off xs).length<=xs.length*1048577
 | [],_,_=>by simp [trC]
 | x::xs,off,h=>by
   have A:=h x (by simp);have u:=aCt .b x.1 x.2.1;have ih:=aFX b xs (off+2) (fun y j=>h y (by simp [j]));simp only [trC,List.length_cons,List.length_append];omega
theorem aFw {w:World} {x:Lcs} (h:Lcs.ok w x):(trK x).length<=1099512676352:=by
 obtain ⟨a,xs,c⟩:=x;obtain ⟨u,y⟩:=h;simp only at u y;rcases u with rfl | ⟨b,off,rfl,D⟩
 ·rw [aGP];simp
 ·have:=aFX b xs off (fun x A=>by
   obtain ⟨j,E,rfl⟩:=List.getElem_of_mem A;exact (D j _ (by simp [E])).2.2)
  simp only [trK];omega
theorem aL6 {w:World} {b o:Nat} {n:Nsh} (h:ShN w b o n):(trN b o n).length<=2199028498435:=by
 have y:=aFw h.okl;have A:=aFw h.okt;have u:=Nat.le_trans (aCt .i n.key.1 n.key.2.1) h.okk.2;have j:=Nat.le_trans (aCt .b n.X.1 n.X.2.1) h.okx.2;have D:=Nat.le_trans (aCt .i n.U.1 n.U.2.1) h.oku.2;simp only [trN,List.length_append,List.length_singleton];omega
theorem aFR {w:World} (b:Nat):∀ (u:List Nsh) (off:Nat),(∀ (j:Nat) (n:Nsh),u[j]?=some n->ShN w b (off+j*8) n)->(jN b off u).length<=u.length*2199028498435
 | [],_,_=>by simp [jN]
 | n::u,off,h=>by
   have y:=aL6 (h 0 n rfl);rw [show off+0*8=off by omega] at y;have ih:=aFR (w:=w) b u (off+8) (fun j m A=>by have:=h (j+1) m (by simpa using A);rwa [show off+(j+1)*8=off+8+j*8 by omega] at this);simp only [jN,List.length_cons,List.length_append];omega
theorem aLB {w:World} {x:Lns} (h:Lns.ok w x):(trM x).length<=2305848506774978560:=by
 obtain ⟨a,y,c⟩:=x;obtain ⟨j,A⟩:=h;simp only at j A;rcases j with rfl | ⟨b,off,rfl,u⟩
 ·rw [aGk];simp
 ·have:=aFR b y off u;simp only [trM];omega
theorem aDB {B:Nat} {w:World} {v:Value} {u:List Cm} (h:OwC B w v u) (hn:u.length<=1048576) (ht:∀ c∈u,c.t.length<=1048576):∃ x:Lcs,x.v=v/\Lcs.ok w x/\qP w B (trK x):=by
 obtain ⟨g,D,hv,hm,M,Z⟩:=h;have H:=World.ownsRow.lt M g (by rw [hv];rfl);have X:=Z.len;rw [hv] at M
 have E:∀ (j:Nat) (x:Lis),(D.map gF)[j]?=some x->∃ c tv,u[j]?=some c/\D[j]?=some tv/\x=gF tv/\OwB B w tv c.t/\c.t.length<=1048576/\w.cell? ⟨g,j*2,none⟩=some (.bool c.b)/\w.cell? ⟨g,j*2+1,none⟩=some tv:=by
  intro j x G;simp only [List.getElem?_map,Option.map_eq_some_iff] at G;obtain ⟨tv,A,rfl⟩:=G;have J:j<u.length:=(by have:=(List.getElem?_eq_some_iff.1 A).1;omega);have U:u[j]?=some u[j]:=(by simp [J]);obtain ⟨tv',N,Y,h3⟩:=xB u D j u[j] X U;rw [A] at N;cases N;refine ⟨u[j],tv,U,A,rfl,(Z.own j _ _ U A).1,ht _ (List.getElem_mem J),?_,?_⟩
  ·rw [World.ownsRow.cellAt M (j*2) (by omega)];exact Y
  ·rw [World.ownsRow.cellAt M (j*2+1) (by omega)];exact h3
 refine ⟨(some ⟨g,0,none⟩,D.map gF,u.length),by simp [Lcs.v,hv,X],⟨.inr ⟨g,0,rfl,fun j x G=>?_⟩,by simp [X];omega⟩,fun y L=>?_⟩
 ·obtain ⟨c,tv,N,Y,rfl,S,O,h6,h7⟩:=E j x G;obtain ⟨k1,k2,k3,k4⟩:=aDb S O;refine ⟨?_,k1⟩;rw [Nat.zero_add,h7,<- k2];rfl
 ·obtain ⟨j,x,G,L⟩:=aF9 g _ _ _ L;obtain ⟨c,tv,N,Y,rfl,S,O,h6,h7⟩:=E j x G;rcases L with rfl | L
  ·simp only [Nat.zero_add];exact ⟨⟨⟨_,h6⟩,World.ownsRow.frozenAt M (j*2)⟩,H.1,H.2⟩
  ·exact (aDb S O).2.2.2 y L
theorem aKC {B:Nat} {w:World} {v:Value} {G:List Nod} (h:OwN B w v G) (hn:G.length<=1048576) (ht:∀ p∈G,NOk p):∃ x:Lns,x.v=v/\Lns.ok w x/\qP w B (trM x):=by
 obtain ⟨g,xs,hv,hm,Y,hT⟩:=h;have A:=World.ownsRow.lt Y g (by rw [hv];rfl);have c9:=Y.1;rw [hv] at Y
 have O:∀ j,j<G.length->∃ n:Nsh,ShN w g (j*8) n/\qP w B (trN g (j*8) n):=by
  intro j H;obtain ⟨lv,kv,xv,uv,tv,⟨e0,e1,e2,e3,e4,e5,e6,e7⟩,o1,o2,o3,o4,o5⟩:=hT j G[j] (by simp [H]);have M:=ht _ (List.getElem_mem H);obtain ⟨xl,l1,l2,l3⟩:=aDB o1 M.L M.leads;obtain ⟨xt,t1,t2,t3⟩:=aDB o5 M.tail M.tails;obtain ⟨a1,a2,a3,a4⟩:=aGv o2 M.key;obtain ⟨b1,b2,b3,b4⟩:=aDb o3 M.X;obtain ⟨c1,c2,c3,c4⟩:=aGv o4 M.U
  have J:∀ i u,i<8->xs[j*8+i]?=some u->w.cell? ⟨g,j*8+i,none⟩=some u:=fun i u hi hu=>by
   rw [World.ownsRow.cellAt Y (j*8+i) (by omega)];exact hu
  have Z:∀ i,w.frozen? ⟨g,i,none⟩=false:=fun i=>World.ownsRow.frozenAt Y i;refine ⟨⟨xl,gF kv,gF xv,gF uv,xt⟩,⟨?_,?_,?_,?_,?_,l2,a1,b1,c1,t2⟩,?_⟩
  ·rw [l1];exact J 1 _ (by omega) e1
  ·rw [a2];exact J 3 _ (by omega) e3
  ·rw [b2];exact J 4 _ (by omega) e4
  ·rw [c2];exact J 5 _ (by omega) e5
  ·rw [t1];exact J 7 _ (by omega) e7
  ·have S:B<=g+1:=by omega
   have s0:qP w B [(⟨g,j*8,none⟩,.i)]:=fun y E=>by
    simp at E;subst E;exact ⟨⟨⟨_,J 0 _ (by omega) e0⟩,Z _⟩,A.1,A.2⟩
   have s2:qP w B [(⟨g,j*8+2,none⟩,.o)]:=fun y E=>by
    simp at E;subst E;exact ⟨⟨⟨_,J 2 _ (by omega) e2⟩,Z _⟩,A.1,A.2⟩
   have s6:qP w B [(⟨g,j*8+6,none⟩,.i)]:=fun y E=>by
    simp at E;subst E;exact ⟨⟨⟨_,J 6 _ (by omega) e6⟩,Z _⟩,A.1,A.2⟩
   exact s0.app ((l3.base S).app (s2.app ((a4.base S).app ((b4.base S).app ((c4.base S).app (s6.app (t3.base S)))))))
 haveI:Inhabited Nsh:=⟨⟨(none,[],0),(none,0,0),(none,0,0),(none,0,0),(none,[],0)⟩⟩
 obtain ⟨q,hq⟩:=Deep.choose_lt O
 have N:∀ (j:Nat) (n:Nsh),((List.range G.length).map q)[j]?=some n->j<G.length/\n=q j:=fun j n H=>by
  have D:j<G.length:=(by have:=(List.getElem?_eq_some_iff.1 H).1;simpa using this);refine ⟨D,?_⟩;simp [D] at H;exact H.symm
 refine ⟨(some ⟨g,0,none⟩,(List.range G.length).map q,G.length),by simp [Lns.v,hv],⟨.inr ⟨g,0,rfl,fun j n H=>?_⟩,by simp;omega⟩,fun y E=>?_⟩
 ·obtain ⟨D,rfl⟩:=N j n H;rw [Nat.zero_add];exact (hq j D).1
 ·obtain ⟨j,n,H,E⟩:=aEr g _ _ _ E;obtain ⟨D,rfl⟩:=N j n H;rw [Nat.zero_add] at E;exact (hq j D).2 y E
structure Far (B:Nat) (w w':World):Prop where
 size:w.heap.size<=w'.heap.size
 block:∀ k,B<=k->k<w.heap.size->w'.heap[k]?=w.heap[k]?
theorem aKm {B:Nat} {w w':World} {e:TypeId} {size n:Nat} {v:Value} {xs:List Value} (h:w.ownsRow B e size v n xs) (f:Far B w w'):w'.ownsRow B e size v n xs:=by
 refine ⟨h.1,?_⟩;rcases h.2 with A | ⟨g,cap,j,hv,u,y,rest⟩
 ·exact .inl A
 ·exact .inr ⟨g,cap,j,hv,u,by rw [f.block g u (Array.getElem?_eq_some_iff.1 y).1];exact y,rest⟩
theorem Rd.low {q:IntKind} {B:Nat} {w w':World} {v:Value} {zs:List Int} (h:Rd q B w v zs) (D:∀ k,k<B->w'.heap[k]?=w.heap[k]?):Rd q B w' v zs:=by
 obtain ⟨a,cap,hv,A⟩:=h;refine ⟨a,cap,hv,fun G=>?_⟩;obtain ⟨b,off,E,u,y⟩:=A G;exact ⟨b,off,E,u,fun j H=>(World.cell?_of_block (D b u)).trans (y j H)⟩
theorem Lns.ok.mrk {w:World} {x:Lns} {l:List (Addr × Kd)} (h:Lns.ok w x) (u:dD w l) (s:Int):Lns.ok (mrk w s l) x:=by
 obtain ⟨y,A⟩:=h;refine ⟨?_,A⟩;rcases y with h | ⟨b,off,h,D⟩
 ·exact .inl h
 ·exact .inr ⟨b,off,h,fun j n E=>(D j n E).mrk u s⟩
structure Mkd (B H:Nat) (w w':World):Prop where
 os:w'.os=w.os
 tape:w'.tape=w.tape
 output:w'.output=w.output
 size:w.heap.size<=w'.heap.size
 block:∀ k,k<B\/H<=k->k<w.heap.size->w'.heap[k]?=w.heap[k]?
theorem Mkd.below {B H:Nat} {w w':World} (h:Mkd B H w w') (u:B<=w.heap.size):Below B w w':=⟨h.os,h.tape,h.output,h.size,fun k j=>h.block k (.inl j) (by omega)⟩
theorem Mkd.far {B H:Nat} {w w':World} (h:Mkd B H w w'):Far H w w':=⟨h.size,fun k u j=>h.block k (.inr u) j⟩
theorem Far.mono {B B':Nat} {w w':World} (h:Far B w w') (u:B<=B'):Far B' w w':=⟨h.size,fun k y j=>h.block k (by omega) j⟩
theorem aKv {w:World} {s:Int} {l:List (Addr × Kd)} {B H:Nat} (o:Obj) (A:∀ y∈l,B<=y.1.block/\y.1.block<H):Mkd B H w (mrk (w.alloc o) s l):=by
 obtain ⟨D,E,u⟩:=aEz l (w.alloc o) s;refine ⟨D,E,u,by rw [aEm];simp,fun k j h=>?_⟩;rw [aBP l (w.alloc o) s B H A k j];exact Below.heap_alloc w o k h
theorem aCO (x:Lns) (y:Lcs) (B H:Nat) (nv tv:Value) (w:World) (J:x.v=nv) (u:y.v=tv) (M:Lns.ok w x) (L:Lcs.ok w y) (h:dD w (trM x++trK y)) (N:∀ z∈trM x++trK y,B<=z.1.block/\z.1.block<H) :
  Calls prog 10 #[.agg #[nv,tv],.int .i64 1] w fun e w'=>∃ n:Nat,e=.returned (.int .i64 (1+n))/\n<=3000000000000000000/\Mkd B H w w'/\Hid ((∀ A,Lns.ok w A->Lns.ok w' A)/\∀ G,dD w G->dD w' G):=by
 have O:=aLB M;have S:=aFw L;subst J u;refine (aDH x y 1 w M L h (by omega) (by omega)).mono ?_;rintro e w' ⟨rfl,rfl⟩;have j:=World.grownBy_alloc w (Obj.cells #[x.v,y.v] 33) none;refine ⟨(trM x).length+(trK y).length,by push_cast;rw [Int.add_assoc],by omega,aKv _ N,fun A D=>(D.grown j).mrk (h.grown j) 1,fun G E=>(E.grown j).mrk (h.grown j) 1⟩
end Go.Proofs.YtgifkcpdihphlaaGreatDoor
namespace Go.Proofs.YtgifkcpdihphlaaGreatDoor
open Go.Proofs.Tryz
open Go.RowKit
attribute [-go_sem] Builtin.append_
theorem aBc (nv tv:Value) (t:Tre) (width ind m:Int) (w:World) (hv:dG w.heap.size w nv tv t) (g5:∀ p∈t.N,NBy p) (h6:∀ c∈t.tail,COk c) (hT:Tab w) (hM:w.cell? ⟨1,0,none⟩=some (.int .i64 m)) :
  Calls prog 3 #[.agg #[nv,tv],.int .i64 width,.int .i64 ind] w fun e w'=>e=.returned (.bool true)/\Below w.heap.size w w':=by
 obtain ⟨b7,b4⟩:=id hv;obtain ⟨na,a4,e0,_⟩:=id b7;obtain ⟨ta,a5,e1,_⟩:=id b4;have n3:2<=w.heap.size:=World.block_lt_of_cell? w _ hM;have a6:Hid (∀ w',w.grownBy w' none->dG w'.heap.size w' nv tv t):=fun w' g=>⟨(b7.K g).wide g.size,(b4.K g).wide g.size⟩;have c6:=aB (fun w' (g:w.grownBy w' none)=>aE9 nv tv t 1048576 w' (a6.out w' g) (by omega) (by omega))
 by_cases h0:aAf t 1048576<0
 ·subst e0 e1;generalize aAf t 1048576=sz at *;clear hv b7 b4 hT hM a6
  go_enter func3,ntmps3
  go_wp2_with fail
  refine (c6.out _ gWA).mono ?_;rintro e w1 ⟨rfl,g1⟩;go_wp2;go_ret;exact ⟨rfl,aO (aA gWA g1)⟩
 obtain ⟨f7,a7,hR,hK⟩:=aFu t h0 g5 h6;have Y:=aB f7;have b6:=aB (aFi t a7);have g0:∀ (u v:Value) (w':World),dG w'.heap.size w' u v t->Tab w'->w'.cell? ⟨1,0,none⟩=some (.int .i64 m)->Calls prog 48 #[.agg #[u,v]] w' fun e X=>e=.returned (.bool (iB t))/\w'.grownBy X none:=fun u v w' h hT hM=>vN u v t m w' h a7 hT hM
 have f6:∀ (u v:Value) (w':World),dG w'.heap.size w' u v t->Calls prog 15 #[.agg #[u,v]] w' fun e X=>e=.returned (.bool (iB t))/\w'.grownBy X none:=fun u v w' h=>by
  have:=wK u v t w' h a7 hR hK;rw [aBA t a7] at this;exact this
 have k2:∀ (x:Bool) (w:World),(Op.unary .not (.bool x)).run prog w=.ok (.bool (!x)) w:=fun _ _=>rfl;generalize iB t=rr at *
 have HS:Hid (∀ (u v:Value) (w':World),dG w'.heap.size w' u v t->Calls prog 5 #[.agg #[u,v],.int .i64 width,.int .i64 ind] w' fun e X=>∃ v',e=.returned (.tuple #[v',.int .i64 (ftR rr width ind t).2])/\RdB X.heap.size X v' (ftR rr width ind t).1/\w'.grownBy X none):=fun u v w' h=>
  aAG t width ind rr (fun h=>b6.out h) u v w' h (fun W hW=>f6 u v W hW)
 have HI:Hid (∀ (u v:Value) (w':World),w.grownBy w' none->dG w'.heap.size w' u v t->Calls prog 7 #[.agg #[u,v],.int .i64 width,.int .i64 ind] w' fun e X=>∃ v',e=.returned (.tuple #[v',.int .i64 (ftR rr width ind t).2])/\OwB w'.heap.size X v' (ftR rr width ind t).1/\w'.grownBy X none):=fun u v w' g h=>
  aAv t width ind m rr (fun h=>b6.out h) a7 u v w' h (hT.K g) (g.cell hM (by simp)) (fun W hW=>g0 u v W hW)
 have j0:=aHh rr width ind t (fun h=>b6.out h);generalize ftR rr width ind t=R at *;obtain ⟨ps,r2⟩:=R;simp only at HS HI j0
 have c3:Hid (∀ (u u':Value) (w':World),RdB w'.heap.size w' u ps->RdB w'.heap.size w' u' ps->Calls prog 8 #[u,u'] w' fun e X=>e=.returned (.bool true)/\w'.grownBy X none):=fun u u' w' h h'=>
  wG u u' ps w' h h' (by omega)
 have d2:Hid (∀ (B:Nat) (w':World) (v:Value),OwB B w' v ps->_):=fun B w' v (h:OwB B w' v ps)=>aBb B v ps 1 w' h (by omega) (by omega) (by omega);have d7:Hid (∀ (w':World) (v:Value),RdB w'.heap.size w' v (vG (uV 1) ps.length)->_):=fun w' v (h:RdB w'.heap.size w' v (vG (uV 1) ps.length))=>aBp v ps.length 1 w' h (by omega) (by omega) (by omega);have m5:(r2 != r2)=false:=(by simp);generalize c8:ps.length=sl at *;subst e0 e1;generalize aAf t 1048576=sz at *;clear hv b7 b4 hT hM a7 hR hK f7 g5 h6 g0 f6 b6
 go_enter func3,ntmps3
 go_wp2_with fail
 refine (c6.out _ gWA).mono ?_;rintro e w1 ⟨rfl,g1⟩;have L:w1.cell? ⟨w.heap.size,0,none⟩=some (.slice na t.N.length a4):=g1.cell (by simp [go_sem]) (by simp);have M:w1.cell? ⟨w.heap.size,1,none⟩=some (.slice ta t.tail.length a5):=g1.cell (by simp [go_sem]) (by simp);have D:=aB (aA (World.grownBy_alloc w (Obj.cells #[.slice na t.N.length a4,.slice ta t.tail.length a5] 25) none) g1);have d3:w.heap.size+1<=w1.heap.size:=(by have:=g1.size;simp at this;omega);clear g1 c6
 go_wp2_with fail
 refine (pY t _ _ _ (a6.out _ D.out) Y.out).mono ?_;rintro e w2 ⟨n2,t2,rfl,c4,b9,g⟩;replace L:=g.cell L (by simp);replace M:=g.cell M (by simp);replace D:=aB (aA D.out g);have d9:=Nat.le_trans d3 g.size;clear g d3;obtain ⟨xa,xc,qx,_⟩:=c4.rd;obtain ⟨ya,yc,qy,_⟩:=b9.rd;have g3:=aB (HS.out _ _ w2 ⟨c4.rd,b9.rd⟩);subst qx qy;clear c4 b9 HS
 go_wp2_with fail
 refine g3.out.mono ?_;rintro e w3 ⟨sv,rfl,j,g⟩;replace L:=g.cell L (by simp);replace M:=g.cell M (by simp);replace D:=aB (aA D.out g);have l8:=Nat.le_trans d9 g.size;clear g g3 d9;obtain ⟨sa,sc,qs,_⟩:=id j;rw [c8] at qs;subst qs;replace j:=aB j
 go_wp2_with fail
 refine (pY t _ _ _ (a6.out _ D.out) Y.out).mono ?_;rintro e w4 ⟨n4,t4,rfl,G,E,g⟩;replace L:=g.cell L (by simp);replace M:=g.cell M (by simp);replace D:=aB (aA D.out g);replace j:=aB (j.out.K g);have z4:=g.size;clear g;obtain ⟨x,d8,H,c5⟩:=aKC G Y.out.n Y.out.ns;obtain ⟨y,g6,J,c0⟩:=aDB E Y.out.tl Y.out.ts;have U:=aB ((c5.app c0).ok);have f8:Hid (∀ z∈trM x++trK y,w3.heap.size<=z.1.block/\z.1.block<w4.heap.size):=fun z hz=>((c5.app c0) z hz).2;clear c5 c0;obtain ⟨pa,pc,qx,_⟩:=id G.rd;obtain ⟨ra,rc,qy,_⟩:=id E.rd;subst qx qy;obtain ⟨W4,b1⟩:∃ W4,W4=w4.alloc (Obj.cells #[.slice pa t.N.length pc,.slice ra t.tail.length rc] 33):=⟨_,rfl⟩;have g:w4.grownBy W4 none:=(by rw [b1];exact gWA);have O:W4.cell? ⟨w4.heap.size,0,none⟩=some (.slice pa t.N.length pc):=(by rw [b1];simp [go_sem]);have S:W4.cell? ⟨w4.heap.size,1,none⟩=some (.slice ra t.tail.length rc):=(by rw [b1];simp [go_sem]);have d6:W4.heap.size=w4.heap.size+1:=(by rw [b1];simp);replace G:=aB G;replace E:=aB E;replace H:=aB H;replace J:=aB J;replace L:=g.cell L (by simp);replace M:=g.cell M (by simp);replace D:=aB (aA D.out g);replace j:=aB (j.out.K g);replace G:=aB (G.out.later g);replace E:=aB (E.out.later g);replace H:=aB (H.out.grown g);replace J:=aB (J.out.grown g);replace U:=aB (U.out.grown g);clear g;subst b1
 go_wp2_with fail
 refine (HI.out _ _ _ D.out ⟨G.out.rd,E.out.rd⟩).mono ?_;rintro e w5 ⟨gv,rfl,A,g⟩;replace L:=g.cell L (by simp);replace M:=g.cell M (by simp);replace D:=aB (aA D.out g);replace j:=aB (j.out.K g);replace G:=aB (G.out.later g);replace E:=aB (E.out.later g);replace H:=aB (H.out.grown g);replace J:=aB (J.out.grown g);replace U:=aB (U.out.grown g);replace O:=g.cell O (by simp);replace S:=g.cell S (by simp);have z5:=g.size;rw [d6] at z5 A;clear g d6;obtain ⟨ga,gc,qg,_,_⟩:=A.sl;rw [c8] at qg;subst qg;replace A:=aB A
 go_wp2_with fail
 refine (c3.out _ _ _ A.out.rd (j.out.wide (by omega))).mono ?_;rintro e w6 ⟨rfl,g⟩;replace L:=g.cell L (by simp);replace M:=g.cell M (by simp);replace D:=aB (aA D.out g);replace j:=aB (j.out.K g);replace G:=aB (G.out.later g);replace E:=aB (E.out.later g);replace H:=aB (H.out.grown g);replace J:=aB (J.out.grown g);replace U:=aB (U.out.grown g);replace O:=g.cell O (by simp);replace S:=g.cell S (by simp);replace A:=aB (A.out.later g);have z6:=g.size;clear g;go_wp2;obtain ⟨I,hI⟩:∃ I:World->Prop,I=(fun W:World=>(W.cell? ⟨w4.heap.size,0,none⟩=some (.slice pa t.N.length pc)/\W.cell? ⟨w4.heap.size,1,none⟩=some (.slice ra t.tail.length rc))/\W.cell? ⟨w.heap.size,0,none⟩=some (.slice na t.N.length a4)/\W.cell? ⟨w.heap.size,1,none⟩=some (.slice ta t.tail.length a5)):=⟨_,rfl⟩;have g:w6.grownBy w6.drew none:=⟨rfl,rfl,rfl,Nat.le_refl _,fun _ _ _=>rfl⟩;replace L:=g.cell L (by simp);replace M:=g.cell M (by simp);replace D:=aB (aA D.out g);replace j:=aB (j.out.K g);replace G:=aB (G.out.later g);replace E:=aB (E.out.later g);replace H:=aB (H.out.grown g);replace J:=aB (J.out.grown g);replace U:=aB (U.out.grown g);replace O:=g.cell O (by simp);replace S:=g.cell S (by simp);replace A:=aB (A.out.later g);clear g;have c1:I w6.drew:=(by rw [hI];exact ⟨⟨O,S⟩,L,M⟩);refine cS I (fun _=>false) (by kernel_rfl) ?_
 show kZ _ _ _ _ _ _ 5 (Array.replicate 5 false) _ _
 refine bE (i:=0) (.agg #[.slice pa t.N.length pc,.slice ra t.tail.length rc]) rfl c1 (cC rfl (fun W hW=>by rw [hI] at hW;obtain ⟨⟨h1,h2⟩,h3,h4⟩:=hW;go_simp)) ?_;refine bE (i:=1) (.agg #[.slice na t.N.length a4,.slice ta t.tail.length a5]) rfl c1 (cC rfl (fun W hW=>by rw [hI] at hW;obtain ⟨⟨h1,h2⟩,h3,h4⟩:=hW;go_simp)) ?_;refine aL (i:=2) (by kernel_rfl) (eC rfl rfl (by go_simp) (pY t _ _ _ (a6.out _ D.out) Y.out) ?_);rintro e w7 ⟨n6,t6,rfl,h7,g8,g⟩;replace L:=g.cell L (by simp);replace M:=g.cell M (by simp);replace D:=aB (aA D.out g);replace j:=aB (j.out.K g);replace G:=aB (G.out.later g);replace E:=aB (E.out.later g);replace H:=aB (H.out.grown g);replace J:=aB (J.out.grown g);replace U:=aB (U.out.grown g);replace O:=g.cell O (by simp);replace S:=g.cell S (by simp);replace A:=aB (A.out.later g);have z7:w6.heap.size<=w7.heap.size:=g.size;clear g;have d5:I w7:=(by rw [hI];exact ⟨⟨O,S⟩,L,M⟩);refine ⟨_,rfl,.inr d5,?_⟩;refine aL (i:=3) (by kernel_rfl) (eC rfl rfl (by go_simp) (aEp _ _ _ _ t _ ⟨G.out.rd,E.out.rd⟩ ⟨h7.rd,g8.rd⟩ Y.out.n Y.out.ns Y.out.tl Y.out.ts) ?_);rintro e w8 ⟨rfl,g⟩;replace L:=g.cell L (by simp);replace M:=g.cell M (by simp);replace D:=aB (aA D.out g);replace j:=aB (j.out.K g);replace H:=aB (H.out.grown g);replace J:=aB (J.out.grown g);replace U:=aB (U.out.grown g);replace O:=g.cell O (by simp);replace S:=g.cell S (by simp);replace A:=aB (A.out.later g);have z8:=g.size;clear g h7 g8 G E;have c7:I w8:=(by rw [hI];exact ⟨⟨O,S⟩,L,M⟩);refine ⟨_,rfl,.inr c7,?_⟩;refine aL (i:=4) (by kernel_rfl) (bM (v:=.bool false) rfl rfl (by go_simp) ⟨.inr c7,?_⟩);refine eD (by kernel_rfl) ?_ _;clear c1 d5 c7;subst hI
 go_wp2_with fail
 refine (aCO x y w3.heap.size w4.heap.size _ _ w8 d8 g6 H.out J.out U.out f8.out).mono ?_;rintro e w9 ⟨n,rfl,hn,hm,HM⟩;have a8:=hm.below (by omega);replace L:=(a8.cell (by simp;omega)).trans L;replace M:=(a8.cell (by simp;omega)).trans M;replace j:=aB (j.out.low (fun k hk=>a8.block k (by omega)));replace D:=aB (aC ((aO D.out).trans (a8.mono (by omega))));replace A:=aB (show OwB (w4.heap.size+1) w9 _ ps from aKm A.out (hm.far.mono (by omega)));have z9:=hm.size;have j3:¬ (1+(n:Int))<0:=(by omega);clear hm HM a8 H J U f8 O S d8 g6
 go_wp2_with fail
 refine (c3.out _ _ _ A.out.rd (j.out.wide (by omega))).mono ?_;rintro e j4 ⟨rfl,g⟩;replace L:=g.cell L (by simp);replace M:=g.cell M (by simp);replace D:=aB (aA D.out g);replace j:=aB (j.out.K g);replace A:=aB (A.out.later g);have l0:=g.size;clear g j3;have f5:=aB (d2.out _ _ _ A.out);have g7:Hid _:=World.ownsRow.lt A.out;clear A d2
 go_wp2_with fail
 refine f5.out.mono ?_;rintro e j2 ⟨rfl,g2,hm⟩;have Z:Below (w4.heap.size+1) j4 j2:=(Below.refl _ _).grown hm (by omega) (fun k hk=>(g7.out k hk).1);have d4:=aB (d7.out _ _ g2.rd);clear g2 g7 d7;replace L:=(Z.cell (by simp;omega)).trans L;replace M:=(Z.cell (by simp;omega)).trans M;replace j:=aB (j.out.low (fun k hk=>Z.block k (by omega)));replace D:=aB (aC ((aO D.out).trans (Z.mono (by omega))));have m6:=hm.size;have n8:¬ (1+(sl:Int))<0:=(by omega);have k8:((1+(sl:Int)) != (1+(sl:Int)))=false:=(by simp);clear hm Z f5
 go_wp2_with fail
 refine d4.out.mono ?_;rintro e k7 ⟨rfl,f3⟩;subst f3;clear d4
 go_wp2_with fail
 refine (pY t _ _ _ (a6.out _ D.out) Y.out).mono ?_;rintro e i9 ⟨l6,m3,rfl,b3,b2,g⟩;replace L:=g.cell L (by simp);replace M:=g.cell M (by simp);replace D:=aB (aA D.out g);replace j:=aB (j.out.K g);have n5:=g.size;clear g;obtain ⟨ha,hc,qx,_⟩:=b3.rd;obtain ⟨l5,n1,qy,_⟩:=b2.rd;have g9:=aB (HI.out _ _ i9 D.out ⟨b3.rd,b2.rd⟩);subst qx qy;clear b3 b2 HI
 go_wp2_with fail
 refine g9.out.mono ?_;rintro e l1 ⟨hv,rfl,a9,g⟩;replace L:=g.cell L (by simp);replace M:=g.cell M (by simp);replace D:=aB (aA D.out g);replace j:=aB (j.out.K g);have m2:=g.size;clear g g9;obtain ⟨m4,n0,qh,_,_⟩:=a9.sl;rw [c8] at qh;subst qh;replace a9:=aB a9
 go_wp2_with fail
 refine (c3.out _ _ _ a9.out.rd (j.out.wide (by omega))).mono ?_;rintro e k9 ⟨rfl,g⟩;replace D:=aB (aA D.out g);clear g a9;go_wp2;go_ret;exact ⟨rfl,aO D.out⟩
end Go.Proofs.YtgifkcpdihphlaaGreatDoor
namespace Go.Proofs.YtgifkcpdihphlaaGreatDoor.fnExactFormatTree
open Go.Proofs.Tryz
open Go.ChangeShapes Go.WideShapes Go.ChangeAt Go.RowKit
theorem own:ownKnob prog.godebug=none:=by kernel_rfl
theorem aCv:laidOutB prog=true:=by kernel_rfl
theorem aEe : prog.globalNamed "loop.example/s02863/impl.formEnds" = some 0 := by kernel_rfl
theorem aEn:(prog.globals[0]?).map (·.type)=some 236:=by kernel_rfl
theorem aMw:prog.cellsOf 236=5:=by kernel_rfl
theorem aKE:prog.cellsOf 25=2:=by kernel_rfl
theorem aMP {xs:Array Value} (h:xs.size=2):∃ a b,xs=#[a,b]:=by
 obtain ⟨l⟩:=xs;obtain ⟨a,b,rfl⟩:=aLw (by simpa using h);exact ⟨a,b,rfl⟩
theorem aMo:prog.cellsOf 21=1:=by kernel_rfl
theorem one : (Rows.fnExactFormatTreeRow.laid.filter fun x => x.1 == "loop.example/s02863/impl.formEnds") = [("loop.example/s02863/impl.formEnds", Lib.tabData .i32 [0, 128, 2048, 65536, 2097152])] := by kernel_rfl
theorem aM2 {W : World} (h : laidMetH prog Rows.fnExactFormatTreeRow.laid W) : Lib.TabIs prog W "loop.example/s02863/impl.formEnds" .i32 [0, 128, 2048, 65536, 2097152] :=
 Lib.tabIs_of_head (rest := []) aEe aEn underlying236 underlying21 aMo aMw (one ▸ laidMetH.filter (fun x => x.1 == "loop.example/s02863/impl.formEnds") h)
theorem aMF {W : World} (h : Lib.TabIs prog W "loop.example/s02863/impl.formEnds" .i32 [0, 128, 2048, 65536, 2097152]) : Tab W :=
 ⟨h.cell aEe 0 (by decide),h.cell aEe 1 (by decide),h.cell aEe 2 (by decide),h.cell aEe 3 (by decide),h.cell aEe 4 (by decide)⟩
theorem aIR {H:Type} (enc:TypeId × Value->H) (W:World) (h:Nat->Bool) :
  DataW.trod enc prog W 0 h true 3 236 ([0,128,2048,65536,2097152].map fun z=>Value.int .i32 z)=some (.agg [.lit (.int .i32 0),.lit (.int .i32 128),.lit (.int .i32 2048),.lit (.int .i32 65536),.lit (.int .i32 2097152)],[]):=by kernel_rfl
theorem aGn {H : Type} (enc : TypeId × Value → H) {W : World} (j : Nat → Bool) (h : Lib.TabIs prog W "loop.example/s02863/impl.formEnds" .i32 [0, 128, 2048, 65536, 2097152]) :
  DataW.TrodVars enc prog W j ["loop.example/s02863/impl.formEnds"] [.agg [.lit (.int .i32 0), .lit (.int .i32 128), .lit (.int .i32 2048), .lit (.int .i32 65536), .lit (.int .i32 2097152)]] (MemPlace.row ⟨0, 0, none⟩ 5 ++ []) :=
 trodVars_mk1 (fuel:=3) aEe aEn h (by simpa using aIR enc W j)
theorem aIe (H:Type) (enc:TypeId × Value->H) (W:World) (base:Nat) (args:Array Value) (ds gs:List (DataW H)) (y:List MemPlace)
  (u:∀ (j:Nat) t v,Tryz.f3.params[j]?=some t->args[j]?=some v->Value.okWide prog W .any base t v)
  (hW:DataW.Whole enc prog Tryz.f3.params.toList Rows.fnExactFormatTreeSpec.vars false W args.toList ds gs y) (hL:laidMetH prog Rows.fnExactFormatTreeRow.laid W) (hS:W.ShapedOpen prog) :
  Calls prog 3 args W fun e W'=>∃ v,e=.returned v/\Rows.fnExactFormatTreeSpec.post enc prog Tryz.f3 false true false false W args v W':=by
 have S:=hW;obtain ⟨p,q,J,hV,rfl,c0,d8⟩:=hW;have hA:DataW.TrodAll enc prog W 0 (fun _=>true) true Tryz.f3.params.toList args.toList ds p:=J;rw [params3] at hA u;obtain ⟨v0,c7,d0,c9,p0,q0,U,rfl,rfl,h0,r0⟩:=trodAll_cons hA;obtain ⟨v1,f6,d1,d7,p1,q1,L,rfl,rfl,h1,r1⟩:=trodAll_cons r0;obtain ⟨v2,b8,d2,d6,p2,q2,M,rfl,rfl,h2,r2⟩:=trodAll_cons r1;obtain ⟨rfl,rfl,rfl⟩:=trodAll_nil r2;obtain rfl:args=#[v0,v1,v2]:=(by cases args;simp_all);have A:=aM2 hL;obtain ⟨rfl,rfl⟩:=hV.unique (aGn enc _ A);obtain ⟨cs,rfl,D⟩:=okWide_struct underlying25 (u 0 25 v0 rfl rfl);rw [aKE] at D;obtain ⟨u0,u1,rfl⟩:=aMP D;obtain ⟨width,rfl⟩:=okWide_int underlying3 (u 1 3 v1 rfl rfl);obtain ⟨ind,rfl⟩:=okWide_int underlying3 (u 2 3 v2 rfl rfl);have k0:=h0;have k1:=h1;have k2:=h2;have O:∀ x∈p2,x.block<W.heap.size:=(by obtain ⟨m,E⟩:=k2;exact DataW.trod_lt m _ _ _ E);have X:∀ x∈p1,x.block<W.heap.size:=(by obtain ⟨m,E⟩:=k1;exact DataW.trod_lt m _ _ _ E);have Z:∀ x∈p0,x.block<W.heap.size:=by obtain ⟨m,E⟩:=k0;exact DataW.trod_lt m _ _ _ E
 obtain ⟨t,a4,a5,Y⟩:∃ t:Tre,dG W.heap.size W u0 u1 t/\(∀ p∈t.N,NBy p)/\∀ c∈t.tail,COk c:=by
  obtain ⟨fuel,hf⟩:=h0;exact aG2 hf
 clear J;have hT:=aMF A;obtain ⟨m,hM⟩:=cell_of_shapedOpen_int (P:=prog) (g:=1) (t:=3) (zero:=#[.int .i64 0]) hS (of_decide_eq_true (by kernel_rfl)) (by kernel_rfl) rfl (by kernel_rfl) (by kernel_rfl) underlying3;refine (aBc u0 u1 t width ind m W a4 a5 Y hT hM).mono fun e W' ⟨he,bel⟩=>?_;subst he;have G : Lib.TabIs prog W' "loop.example/s02863/impl.formEnds" .i32 [0, 128, 2048, 65536, 2097152] := var?_below bel aEe hT.pos A
 exact ⟨_,rfl,_,_,_,[],_,_,S,trodAll_mk1 (shut_bool underlying4 _),(trodAll_cons_mk (Below.trod aCv (by kernel_rfl) (of_decide_eq_true (by kernel_rfl)) k0 bel Z) (trodAll_cons_mk (Below.trod aCv (by kernel_rfl) (of_decide_eq_true (by kernel_rfl)) k1 bel X) (trodAll_cons_mk (Below.trod aCv (by kernel_rfl) (of_decide_eq_true (by kernel_rfl)) k2 bel O) trodAll_mk0))),aGn enc _ G,bel.frame _,fun h=>by cases h⟩
noncomputable def firstCells:Array Value:=(Go.Pinned.utf8FirstZ.map fun (z:Nat)=>Value.int .u8 z).toArray
noncomputable def aDT:Array Value:=(([128,191,160,191,128,159,144,191,128,143]++List.replicate 22 0:List Int).map fun z=>Value.int .u8 z).toArray
noncomputable def lay (o:Obj) (cs:Array Value):Obj:=match o with
 | .cells _ t frozen=>.cells cs t frozen
 | o=>o
noncomputable def xD (os:Os):World:=
 { World.holding prog os ⟨#[],#[],[]⟩ with heap:=(((World.holding prog os ⟨#[],#[],[]⟩).heap.modify 0 fun o=>lay o #[.int .i32 0,.int .i32 128,.int .i32 2048,.int .i32 65536,.int .i32 2097152]).modify 2 fun o=>lay o firstCells).modify 3 fun o=>lay o aDT }
theorem aJh (h:Os):laidMet prog Rows.fnExactFormatTreeRow.laid ((xD h).forCall (fun _ _=>0) ⟨#[],#[.agg #[.slice none 0 0,.slice none 0 0],.int .i64 0,.int .i64 0],[]⟩).memory:=
 laidMet_of_run' 8 (by kernel_rfl) (by kernel_rfl)
theorem aMN (j:Os) {H:Type} (enc:TypeId × Value->H):∃ h,DataW.whole enc prog ((xD j).forCall (fun _ _=>0) ⟨#[],#[.agg #[.slice none 0 0,.slice none 0 0],.int .i64 0,.int .i64 0],[]⟩).memory Tryz.f3.params.toList Rows.fnExactFormatTreeSpec.vars false #[Value.agg #[.slice none 0 0,.slice none 0 0],.int .i64 0,.int .i64 0].toList 8=some ([.agg [.nil,.nil],.lit (.int .i64 0),.lit (.int .i64 0)],[.agg [.lit (.int .i32 0),.lit (.int .i32 128),.lit (.int .i32 2048),.lit (.int .i32 65536),.lit (.int .i32 2097152)]],h):=
 ⟨MemPlace.row ⟨0,0,none⟩ 5,by kernel_rfl⟩
theorem aL3 (u:Os) (h:u.Started) (H:Type) (enc:TypeId × Value->H) (F:Stop.Interp) :
  ReturnsInHanded {} Tryz.checked u 3 .any ((OpenSpec.ofChange Rows.fnExactFormatTreeSpec).preRow enc prog Tryz.f3 Rows.fnExactFormatTreeRow.domain false Rows.fnExactFormatTreeRow.laid) (((OpenSpec.ofChange Rows.fnExactFormatTreeSpec).at F).post enc prog Tryz.f3 false true false false):=by
 obtain ⟨A,L⟩:=aMN u enc
 refine returnsInHanded_of_row (C:=Tryz.checked) (s:=OpenSpec.ofChange Rows.fnExactFormatTreeSpec) own h (by kernel_rfl) func3
  (witness_row_at (enc:=enc) (C:=Tryz.checked) false (xD u) #[.agg #[.slice none 0 0,.slice none 0 0],.int .i64 0,.int .i64 0] rfl (by kernel_rfl) (by kernel_rfl) (by kernel_rfl)
   (OpenSpec.preRow_of_cond 8 L (by kernel_rfl) (fun k G=>by cases G) (by kernel_rfl) (aJh u))) ?_
 intro W base args J E j y D _ _ _ N M _;exact aIe H enc W base args J E j y D N M
theorem aM9:Rows.FnExactFormatTreeSaid:=
 OpenClaim.holds_of_cond 3 Tryz.f3 rfl rfl rfl rfl rfl rfl rfl ⟨rfl,rfl,rfl,rfl,rfl⟩ rfl rfl rfl rfl rfl (by kernel_rfl) func3 (by kernel_rfl)
  (of_decide_eq_true (by kernel_rfl)) (by unfold Func.isWrapper;first | (rw [if_pos (by decide+kernel)];kernel_rfl) | (rw [if_neg (by decide+kernel)];exact ⟨rfl,rfl⟩))
  (fun j h H enc _ F=>by rw [OpenClaim.pre_eq_preRow];exact aL3 j h H enc F)
theorem aMK (f : FuncId) (u : Func) (D : Tryz.pinned.checked.prog.funcNamed "loop.example/s02863/laws.FnExactFormatTree" = some f) (h : Tryz.pinned.checked.prog.funcs[f]? = some u) :
  true=Tryz.pinned.checked.prog.looks []/\∀ (j:Nat) t,u.params[j]?=some t->Tryz.pinned.checked.prog.wantsStandIn t=false:=by
 obtain rfl : f = 3 := Option.some.inj ((show prog.funcNamed "loop.example/s02863/laws.FnExactFormatTree" = some 3 by kernel_rfl).symm.trans D) |>.symm
 obtain rfl:u=Tryz.f3:=(Option.some.inj (func3.symm.trans h)).symm;refine ⟨by kernel_rfl,fun j t A=>?_⟩;rw [params3] at A;have y:t=25\/t=3:=(by have:=Array.mem_of_getElem? A;simp at this;omega);rcases y with rfl | rfl
 ·exact (show prog.wantsStandIn 25=false by kernel_rfl)
 ·exact (show prog.wantsStandIn 3=false by kernel_rfl)
theorem card:Rows.FnExactFormatTreeCardSaid:=
 Claim7.holds_tied_plain_at .later [] _ _ _ _ aM9 (fun _ h=>by cases h) (by kernel_rfl) (fun _ h=>by cases h) fnExactFormatTree_row_tie rfl ⟨rfl,rfl⟩ (by kernel_rfl) rfl aMK (by kernel_rfl)
end Go.Proofs.YtgifkcpdihphlaaGreatDoor.fnExactFormatTree
namespace Go.Proofs.YtgifkcpdihphlaaGreatDoor
open Go.Proofs.Tryz
theorem fnExactFormatTree_proved:Rows.FnExactFormatTreeCardSaid:=fnExactFormatTree.card
end Go.Proofs.YtgifkcpdihphlaaGreatDoor
