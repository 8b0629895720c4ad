import Derived.Test.YtgifkcpdihphlaaGreatDoorMBW
set_option maxHeartbeats 16000000
set_option maxRecDepth 100000
namespace Go.Proofs.YtgifkcpdihphlaaGreatDoor
open Tryz
open Go.RowKit
theorem upto_zero (f:Nat->Int):vG f 0=[]:=rfl
theorem aBb (B:Nat) (v:Value) (zs:List Int) (s:Int) (w:World) (hv:OwB B w v zs) (X:zs.length<=600000000) (Z:0<=s) (h1:s<=4611686018427387904) :
  Calls prog 11 #[v,.int .i64 s] w fun e w'=>e=.returned (.int .i64 (s+zs.length))/\OwB B w' v (vG (uV s) zs.length)/\w.grownBy w' v.ownBlock:=by
 rcases hv.2 with ⟨rfl,L⟩ | ⟨g,cap,U,rfl,hb,O,G,J,E,M⟩
 ·have:zs=[]:=List.eq_nil_of_length_eq_zero L;subst this
  go_enter func11,ntmps11
  go_wp2;refine wp_loop_rounds 1 ?_;rw [rounds_succ];go_wp2;go_ret;exact ⟨by simp,hv,World.grownBy.refl _ _⟩
 ·clear O G J E M
  go_enter func11,ntmps11
  go_wp2
  go_loopw [1,5] (fun t i wr=>∃ k:Nat,k<=zs.length/\i=.int .i64 k/\t=.int .i64 (s+k)/\wr.ownsRow B 5 1 (.slice (some ⟨g,0,none⟩) zs.length cap) zs.length ((vG (uV s) k++zs.drop k).map (Value.int .u8))/\w.grownBy wr (some g))
   (fun _ i _=>zs.length - (intOf i).toNat)
  case atStart=>
   exact ⟨0,Nat.zero_le _,rfl,by simp,by simpa [upto_zero,Ow] using hv,World.grownBy.refl _ _⟩
  case round=>
   obtain ⟨k,Y,rfl,rfl,h,D⟩:=hrel
   by_cases A:k<zs.length
   ·have N:wr.cell? ⟨g,k,none⟩=some (.int .u8 (zs[k]?.getD 0)):=by
     rw [World.ownsRow.cellAt h k (by omega)];simp [jU,List.getElem?_append,A]
    have S:=World.ownsRow.frozenAt h k;have j:=World.ownsRow.stored h k (.int .u8 (uV s k));rw [aG0 _ (uV s) zs k A] at j;have y:=aA D j.2;have u:=j.1;clear j hv h;unfold uV at u y;go_wp2
    go_roundw
    case rel=>exact ⟨k+1,by omega,by go_num,by go_num,u,y⟩
    case measure=>simp [intOf];omega
   ·go_wp2;go_ret;have H:k=zs.length:=(by omega);subst H;refine ⟨rfl,?_,D⟩;have:=h;simp only [List.drop_length,List.append_nil] at this;unfold OwB Ow;rw [jU];exact this
theorem aBp (v:Value) (n:Nat) (s:Int) (w:World) (hv:RdB w.heap.size w v (vG (uV s) n)) (G:n<=600000000) (L:0<=s) (J:s<=4611686018427387904) :
  Calls prog 12 #[v,.int .i64 s] w fun e w'=>e=.returned (.int .i64 (s+n))/\w=w':=by
 obtain ⟨a,cap,rfl,u⟩:=hv;rw [jU] at u ⊢
 go_enter func12,ntmps12
 go_wp2
 go_loop [1,5] (fun t i=>∃ k:Nat,k<=n/\i=.int .i64 k/\t=.int .i64 (s+k))
  (fun _ i=>n - (intOf i).toNat)
 case atStart=>exact ⟨0,Nat.zero_le _,rfl,by simp⟩
 case round=>
  obtain ⟨k,H,rfl,rfl⟩:=hrel
  by_cases j:k<n
  ·obtain ⟨b,off,rfl,E,A⟩:=u (fun h=>by have:=jU (uV s) n;rw [h] at this;simp at this;omega);have D:w.cell? ⟨b,off+k,none⟩=some (.int .u8 ((s+k)%256)):=(by rw [A k j,aIr _ n k j];rfl);clear A u E;go_wp2
   go_round
   case rel=>exact ⟨k+1,by omega,by go_num,by go_num⟩
   case measure=>simp [intOf];omega
  ·go_wp2;go_ret;have y:k=n:=(by omega);subst y;exact ⟨rfl,rfl⟩
inductive Kd where
 | b
 | i
 | o
def mkV:Kd->Int->Value
 | .b,k=>.int .u8 (k%256)
 | .i,k=>.int .i64 k
 | .o,k=>.bool (decide (k%3=0))
def mrk:World->Int->List (Addr × Kd)->World
 | w,_,[]=>w
 | w,s,(a,q)::l=>mrk (w.setCell a (mkV q s)) (s+1) l
theorem yZ:∀ (j h:List (Addr × Kd)) (w:World) (s:Int),mrk w s (j++h)=mrk (mrk w s j) (s+j.length) h
 | [],h,w,s=>by simp [mrk]
 | (a,q)::l,h,w,s=>by
   simp only [List.cons_append,mrk,yZ l h,List.length_cons];congr 1;omega
theorem rM (l:List (Addr × Kd)) (a:Addr) (q:Kd) (w:World) (s:Int):mrk w s (l++[(a,q)])=(mrk w s l).setCell a (mkV q (s+l.length)):=by
 rw [yZ];rfl
theorem aEm:∀ (l:List (Addr × Kd)) (w:World) (s:Int),(mrk w s l).heap.size=w.heap.size
 | [],w,s=>rfl
 | (a,q)::l,w,s=>by simp only [mrk,aEm l];simp
theorem kM:∀ (l:List (Addr × Kd)) (w:World) (s:Int) (x:Addr),(mrk w s l).frozen? x=w.frozen? x
 | [],w,s,x=>rfl
 | (a,q)::l,w,s,x=>by simp only [mrk,kM l];simp
theorem aF2:∀ (l:List (Addr × Kd)) (w:World) (s:Int) (x:Addr),(∀ y∈l,y.1≠x)->(mrk w s l).cell? x=w.cell? x
 | [],w,s,x,_=>rfl
 | (a,q)::l,w,s,x,h=>by
   simp only [mrk];rw [aF2 l _ _ x (fun y j=>h y (by simp [j])),World.cell?_setCell_other _ _ _ _ (h (a,q) (by simp))]
theorem aBP:∀ (l:List (Addr × Kd)) (w:World) (s:Int) (B H:Nat),(∀ y∈l,B<=y.1.block/\y.1.block<H)->∀ k,k<B\/H<=k->(mrk w s l).heap[k]?=w.heap[k]?
 | [],w,s,B,H,_,k,_=>rfl
 | (a,q)::l,w,s,B,H,h,k,hk=>by
   have u:=h (a,q) (by simp);simp only at u;simp only [mrk];rw [aBP l _ _ B H (fun y j=>h y (by simp [j])) k hk];exact Below.heap_setCell _ _ _ _ (by omega)
theorem aEz:∀ (l:List (Addr × Kd)) (w:World) (s:Int),(mrk w s l).os=w.os/\(mrk w s l).tape=w.tape/\(mrk w s l).output=w.output
 | [],w,s=>⟨rfl,rfl,rfl⟩
 | (a,q)::l,w,s=>by
   obtain ⟨h,j,u⟩:=aEz l (w.setCell a (mkV q s)) (s+1);exact ⟨h,j,u⟩
def nE (w:World) (x:Addr):Kd->Prop
 | .b=>∃ z,w.cell? x=some (.int .u8 z)
 | .i=>∃ z,w.cell? x=some (.int .i64 z)
 | .o=>∃ t,w.cell? x=some (.bool t)
theorem nE.isS {w:World} {x:Addr} {q:Kd} (h:nE w x q):(w.cell? x).isSome=true:=by
 cases q<;>(obtain ⟨z,h⟩:=h;rw [h];rfl)
theorem nE.uniq {w:World} {x:Addr} {q u:Kd} (h:nE w x q) (j:nE w x u):q=u:=by
 cases q<;>cases u<;>first | rfl | (obtain ⟨z,h⟩:=h;obtain ⟨y,j⟩:=j;rw [h] at j;cases j)
theorem nE.mk {w:World} {x:Addr} {q:Kd} {s:Int} (h:w.cell? x=some (mkV q s)):nE w x q:=by
 cases q
 ·exact ⟨_,h⟩
 ·exact ⟨_,h⟩
 ·exact ⟨_,h⟩
theorem nE.set {w:World} {x a:Addr} {q j:Kd} {s:Int} (h:nE w x q) (u:nE w a j):nE (w.setCell a (mkV j s)) x q:=by
 by_cases e:a=x
 ·subst e;obtain rfl:=h.uniq u;exact nE.mk (World.cell?_setCell_same' _ _ _ h.isS)
 ·have:=World.cell?_setCell_other w a x (mkV j s) e;cases q<;>(obtain ⟨z,h⟩:=h;exact ⟨z,this.trans h⟩)
def dD (w:World) (l:List (Addr × Kd)):Prop:=∀ y∈l,nE w y.1 y.2/\w.frozen? y.1=false
theorem oH:∀ (l:List (Addr × Kd)) (w:World) (s:Int) (x:Addr) (q:Kd),dD w l->nE w x q->nE (mrk w s l) x q
 | [],w,s,x,q,_,h=>h
 | (a,q')::l,w,s,x,q,hl,h=>by
   have u:=(hl (a,q') (by simp)).1;exact oH l _ _ x q (fun y j=>⟨((hl y (by simp [j])).1).set u,by simp;exact (hl y (by simp [j])).2⟩) (h.set u)
theorem dD.mrk {w:World} {l j:List (Addr × Kd)} (h:dD w l) (A:dD w j) (s:Int):dD (mrk w s j) l:=
 fun y u=>⟨oH j w s _ _ A (h y u).1,by rw [kM];exact (h y u).2⟩
theorem aHF {l:List (Addr × Kd)} {w:World} {s:Int} {x:Addr} (j:dD w l) (h:∀ q,¬ nE w x q):(mrk w s l).cell? x=w.cell? x:=
 aF2 l w s x (fun y u e=>h y.2 (by rw [<- e];exact (j y u).1))
theorem jR {l:List (Addr × Kd)} {w:World} {s:Int} {x:Addr} {a:Option Addr} {n c:Nat} (u:dD w l) (h:w.cell? x=some (.slice a n c)):(mrk w s l).cell? x=some (.slice a n c):=by
 rw [aHF u (fun q j=>by cases q<;>(obtain ⟨z,j⟩:=j;rw [h] at j;cases j)),h]
def trL (q:Kd):Option Addr->Nat->List (Addr × Kd)
 | none,_=>[]
 | some a,n=>(List.range n).map fun j=>(a.add j,q)
theorem aDp (q:Kd) (a:Addr) (n:Nat):(trL q (some a) n).length=n:=by simp [trL]
theorem aEB (q:Kd) (a:Addr) (n:Nat):trL q (some a) (n+1)=trL q (some a) n++[(a.add n,q)]:=by simp [trL,List.range_succ]
theorem aEi {w:World} {q:Kd} {a:Addr} {n k:Nat} (h:dD w (trL q (some a) n)) (D:k<=n):dD w (trL q (some a) k):=fun y u=>by
 simp only [trL,List.mem_map,List.mem_range] at u;obtain ⟨j,A,rfl⟩:=u;exact h _ (by simp only [trL,List.mem_map,List.mem_range];exact ⟨j,by omega,rfl⟩)
theorem aIb {w:World} {q:Kd} {a:Addr} {n k:Nat} (h:dD w (trL q (some a) n)) (j:k<n):nE w (a.add k) q/\w.frozen? (a.add k)=false:=
 h (a.add k,q) (by simp only [trL,List.mem_map,List.mem_range];exact ⟨k,j,rfl⟩)
theorem aC5 (b off n cap:Nat) (s:Int) (w:World) (h:dD w (trL .b (some ⟨b,off,none⟩) n)) (L:n<=8388608) (N:0<=s) (M:s<=4611686018427387904) :
  Calls prog 11 #[.slice (some ⟨b,off,none⟩) n cap,.int .i64 s] w fun e w'=>e=.returned (.int .i64 (s+n))/\mrk w s (trL .b (some ⟨b,off,none⟩) n)=w':=by
 have E:=aB h;clear h
 go_enter func11,ntmps11
 go_wp2
 go_loopw [1,5] (fun t i W=>∃ k:Nat,k<=n/\i=.int .i64 k/\t=.int .i64 (s+k)/\W=mrk w s (trL .b (some ⟨b,off,none⟩) k)) (fun _ i _=>n - (intOf i).toNat)
 case atStart=>exact ⟨0,Nat.zero_le _,rfl,by simp,rfl⟩
 case round=>
  obtain ⟨k,G,rfl,rfl,u⟩:=hrel
  by_cases A:k<n
  ·have j:=aIb (E.out.mrk (aEi E.out G) s) A;rw [<- u,Addr.add_lit] at j;obtain ⟨⟨z,H⟩,J⟩:=j
   have D:Hid (wr.setCell ⟨b,off+k,none⟩ (mkV .b (s+k))=mrk w s (trL .b (some ⟨b,off,none⟩) (k+1))):=by
    unfold Hid;rw [aEB,rM,aDp,<- u,Addr.add_lit]
   unfold mkV at D;clear u;go_wp2
   go_roundw
   case rel=>exact ⟨k+1,by omega,by go_num,by go_num,D.out⟩
   case measure=>simp [intOf];omega
  ·go_wp2;go_ret;have y:k=n:=(by omega);subst y;exact ⟨rfl,by first | rfl | exact u.symm⟩
theorem aDX (b off n cap:Nat) (s:Int) (w:World) (h:dD w (trL .i (some ⟨b,off,none⟩) n)) (L:n<=8388608) (N:0<=s) (M:s<=4611686018427387904) :
  Calls prog 57 #[.slice (some ⟨b,off,none⟩) n cap,.int .i64 s] w fun e w'=>e=.returned (.int .i64 (s+n))/\mrk w s (trL .i (some ⟨b,off,none⟩) n)=w':=by
 have E:=aB h;clear h
 go_enter func57,ntmps57
 go_wp2
 go_loopw [1,5] (fun t i W=>∃ k:Nat,k<=n/\i=.int .i64 k/\t=.int .i64 (s+k)/\W=mrk w s (trL .i (some ⟨b,off,none⟩) k)) (fun _ i _=>n - (intOf i).toNat)
 case atStart=>exact ⟨0,Nat.zero_le _,rfl,by simp,rfl⟩
 case round=>
  obtain ⟨k,G,rfl,rfl,u⟩:=hrel
  by_cases A:k<n
  ·have j:=aIb (E.out.mrk (aEi E.out G) s) A;rw [<- u,Addr.add_lit] at j;obtain ⟨⟨z,H⟩,J⟩:=j
   have D:Hid (wr.setCell ⟨b,off+k,none⟩ (mkV .i (s+k))=mrk w s (trL .i (some ⟨b,off,none⟩) (k+1))):=by
    unfold Hid;rw [aEB,rM,aDp,<- u,Addr.add_lit]
   unfold mkV at D;clear u;go_wp2
   go_roundw
   case rel=>exact ⟨k+1,by omega,by go_num,by go_num,D.out⟩
   case measure=>simp [intOf];omega
  ·go_wp2;go_ret;have y:k=n:=(by omega);subst y;exact ⟨rfl,by first | rfl | exact u.symm⟩
abbrev Lis:=Option Addr × Nat × Nat
def Lis.v (x:Lis):Value:=.slice x.1 x.2.1 x.2.2
def Lis.ok (x:Lis):Prop:=(x.2.1=0\/∃ b off,x.1=some ⟨b,off,none⟩)/\x.2.1<=1048576
theorem aAo (q:Kd) (a:Option Addr):trL q a 0=[]:=by cases a<;>simp [trL]
theorem tH (x:Lis) (s:Int) (w:World) (j:Lis.ok x) (h:dD w (trL .b x.1 x.2.1)) (u:0<=s) (y:s<=4611686018427387904) :
  Calls prog 11 #[x.v,.int .i64 s] w fun e w'=>e=.returned (.int .i64 (s+x.2.1))/\mrk w s (trL .b x.1 x.2.1)=w':=by
 obtain ⟨a,n,cap⟩:=x;obtain ⟨j,A⟩:=j;simp only [Lis.v] at *;rcases j with rfl | ⟨b,off,rfl⟩
 ·rw [aAo];clear h
  go_enter func11,ntmps11
  go_wp2;refine wp_loop_rounds 1 ?_;rw [rounds_succ];go_wp2;go_ret;exact ⟨by simp,rfl⟩
 ·exact aC5 b off n cap s w h (by omega) u y
theorem vB (x:Lis) (s:Int) (w:World) (j:Lis.ok x) (h:dD w (trL .i x.1 x.2.1)) (u:0<=s) (y:s<=4611686018427387904) :
  Calls prog 57 #[x.v,.int .i64 s] w fun e w'=>e=.returned (.int .i64 (s+x.2.1))/\mrk w s (trL .i x.1 x.2.1)=w':=by
 obtain ⟨a,n,cap⟩:=x;obtain ⟨j,A⟩:=j;simp only [Lis.v] at *;rcases j with rfl | ⟨b,off,rfl⟩
 ·rw [aAo];clear h
  go_enter func57,ntmps57
  go_wp2;refine wp_loop_rounds 1 ?_;rw [rounds_succ];go_wp2;go_ret;exact ⟨by simp,rfl⟩
 ·exact aDX b off n cap s w h (by omega) u y
def trC (b:Nat):Nat->List Lis->List (Addr × Kd)
 | _,[]=>[]
 | off,x::xs=>(⟨b,off,none⟩,.o)::(trL .b x.1 x.2.1++trC b (off+2) xs)
theorem aEw (b:Nat):∀ (xs:List Lis) (off k:Nat) (h:k<xs.length),trC b off (xs.take (k+1))=trC b off (xs.take k)++[(⟨b,off+k*2,none⟩,.o)]++trL .b xs[k].1 xs[k].2.1
 | x::xs,off,0,_=>by simp [trC]
 | x::xs,off,k+1,h=>by
   have ih:=aEw b xs (off+2) k (by simpa using h);simp only [List.take_succ_cons,trC,ih,List.getElem_cons_succ,List.cons_append,List.append_assoc];rw [show off+2+k*2=off+(k+1)*2 by omega]
theorem aGt (b:Nat) (xs:List Lis) (off k:Nat):∀ y∈trC b off (xs.take k),y∈trC b off xs:=by
 induction xs generalizing off k with
 | nil=>simp
 | cons x xs ih=>
   cases k with
   | zero=>simp [trC]
   | succ k=>
     intro y j;simp only [List.take_succ_cons,trC,List.mem_cons,List.mem_append] at j ⊢;rcases j with h | h | h
     ·exact .inl h
     ·exact .inr (.inl h)
     ·exact .inr (.inr (ih (off+2) k y h))
def ShC (w:World) (b off:Nat) (xs:List Lis):Prop:=∀ (j:Nat) (x:Lis),xs[j]?=some x->w.cell? ⟨b,off+j*2+1,none⟩=some x.v/\x.ok
theorem nJ (q:Kd) (x:Lis) (h:x.ok):(trL q x.1 x.2.1).length=x.2.1:=by
 rcases h.1 with h | ⟨b,off,h⟩
 ·rw [h,aAo];rfl
 ·rw [h,aDp]
theorem aIw (b:Nat):∀ (xs:List Lis) (off k:Nat),(trC b off (xs.take k)).length<=(trC b off xs).length
 | [],off,k=>by simp
 | x::xs,off,0=>by simp [trC]
 | x::xs,off,k+1=>by
   have:=aIw b xs (off+2) k;simp only [List.take_succ_cons,trC,List.length_cons,List.length_append];omega
theorem yL (b off cap:Nat) (xs:List Lis) (s:Int) (w:World) (h:dD w (trC b off xs)) (hs:ShC w b off xs) (hn:xs.length<=1048576) (h0:0<=s) (h1:s+(trC b off xs).length<=4611686018427387904) :
  Calls prog 28 #[.slice (some ⟨b,off,none⟩) xs.length cap,.int .i64 s] w fun e w'=>e=.returned (.int .i64 (s+(trC b off xs).length))/\mrk w s (trC b off xs)=w':=by
 have Y:=aB h;have HS:=aB hs;clear h hs
 go_enter func28,ntmps28
 go_wp2
 go_loopw [1,5] (fun t i W=>∃ k:Nat,k<=xs.length/\i=.int .i64 k/\t=.int .i64 (s+(trC b off (xs.take k)).length)/\W=mrk w s (trC b off (xs.take k))) (fun _ i _=>xs.length - (intOf i).toNat)
 case atStart=>exact ⟨0,Nat.zero_le _,rfl,by simp [trC],by simp [trC,mrk]⟩
 case round=>
  obtain ⟨k,hk,rfl,rfl,J⟩:=hrel
  by_cases S:k<xs.length
  ·have L:=aEw b xs off k S;have G:∀ y∈trC b off (xs.take (k+1)),y∈trC b off xs:=aGt b xs off (k+1);have D:dD w (trC b off (xs.take k)):=fun y A=>Y.out y (aGt b xs off k y A);have E:dD w (trC b off (xs.take k)++[(⟨b,off+k*2,none⟩,.o)]):=fun y A=>Y.out y (G y (by rw [L];exact List.mem_append_left _ A));have O:dD w (trL .b xs[k].1 xs[k].2.1):=fun y A=>Y.out y (G y (by rw [L];exact List.mem_append_right _ A));obtain ⟨M,u⟩:=HS.out k xs[k] (by simp [S])
   have H:nE wr ⟨b,off+k*2,none⟩ .o/\wr.frozen? ⟨b,off+k*2,none⟩=false:=by
    have A:=E (⟨b,off+k*2,none⟩,.o) (by simp);rw [J];exact ⟨oH _ _ _ _ _ D A.1,by rw [kM];exact A.2⟩
   obtain ⟨⟨tb,b6⟩,b2⟩:=H;have j:=aIw b xs off (k+1);rw [L,List.length_append,List.length_append,List.length_singleton,nJ _ _ u] at j;have U:=jR (s:=s) D M;rw [<- J] at U
   have Z:Hid (mrk (wr.setCell ⟨b,off+k*2,none⟩ (mkV .o (s+(trC b off (xs.take k)).length))) (s+(trC b off (xs.take k)).length+1) (trL .b xs[k].1 xs[k].2.1)=mrk w s (trC b off (xs.take (k+1)))):=by
    unfold Hid;rw [L,yZ,rM,<- J];congr 1;simp;omega
   have HO:Hid (dD (wr.setCell ⟨b,off+k*2,none⟩ (mkV .o (s+(trC b off (xs.take k)).length))) (trL .b xs[k].1 xs[k].2.1)):=by
    unfold Hid;rw [J,<- rM];exact O.mrk E s
   have HL:Hid (s+(trC b off (xs.take k)).length+1+xs[k].2.1=s+(trC b off (xs.take (k+1))).length):=by
    unfold Hid;rw [L,List.length_append,List.length_append,List.length_singleton,nJ _ _ u];omega
   have HX:=aB u;clear L G D E O M J u;generalize xs[k]=x at *;obtain ⟨xa,xn,xc⟩:=x;simp only at j Z HO HL;have b1:0<=s+((trC b off (xs.take k)).length:Int):=(by omega);have b5:s+((trC b off (xs.take k)).length:Int)+1+xn<=4611686018427387904:=(by omega);generalize s+((trC b off (xs.take k)).length:Int)=T at *;have HM:=aB (tH (xa,xn,xc) (T+1) (wr.setCell ⟨b,off+k*2,none⟩ (mkV .o T)) HX.out HO.out (by omega) (by omega));have N:mkV .o T=.bool (T%3==0):=rfl;rw [N] at HM Z;clear j HO N
   go_wp2_with fail
   refine HM.out.mono ?_;rintro e w2 ⟨rfl,rfl⟩;rw [Z.out];go_wp2
   go_roundw
   case rel=>exact ⟨k+1,by omega,by go_num,by rw [<- HL.out],rfl⟩
   case measure=>simp [intOf];omega
  ·go_wp2;go_ret;have X:k=xs.length:=(by omega);subst X;rw [List.take_length] at *;exact ⟨rfl,by first | rfl | exact J.symm⟩
abbrev Lcs:=Option Addr × List Lis × Nat
def Lcs.v (x:Lcs):Value:=.slice x.1 x.2.1.length x.2.2
def trK:Lcs->List (Addr × Kd)
 | (none,_,_)=>[]
 | (some a,xs,_)=>trC a.block a.off xs
def Lcs.ok (w:World) (x:Lcs):Prop:=(x.2.1=[]\/∃ b off,x.1=some ⟨b,off,none⟩/\ShC w b off x.2.1)/\x.2.1.length<=1048576
theorem aGP (a:Option Addr) (c:Nat):trK (a,[],c)=[]:=by cases a<;>rfl
theorem ShC.mrk {w:World} {b off:Nat} {xs:List Lis} {l:List (Addr × Kd)} (h:ShC w b off xs) (y:dD w l) (s:Int):ShC (mrk w s l) b off xs:=fun j x u=>⟨jR y (h j x u).1,(h j x u).2⟩
theorem Lcs.ok.mrk {w:World} {x:Lcs} {l:List (Addr × Kd)} (h:Lcs.ok w x) (u:dD w l) (s:Int):Lcs.ok (mrk w s l) x:=by
 obtain ⟨A,j⟩:=h;refine ⟨?_,j⟩;rcases A with h | ⟨b,off,h,y⟩
 ·exact .inl h
 ·exact .inr ⟨b,off,h,y.mrk u s⟩
theorem kW (x:Lcs) (s:Int) (w:World) (u:Lcs.ok w x) (h:dD w (trK x)) (D:0<=s) (y:s+(trK x).length<=4611686018427387904) :
  Calls prog 28 #[x.v,.int .i64 s] w fun e w'=>e=.returned (.int .i64 (s+(trK x).length))/\mrk w s (trK x)=w':=by
 obtain ⟨a,xs,cap⟩:=x;obtain ⟨u,A⟩:=u;simp only [Lcs.v] at *;rcases u with rfl | ⟨b,off,rfl,j⟩
 ·rw [aGP];clear h y;simp only [List.length_nil]
  go_enter func28,ntmps28
  go_wp2;refine wp_loop_rounds 1 ?_;rw [rounds_succ];go_wp2;go_ret;exact ⟨by simp,rfl⟩
 ·exact yL b off cap xs s w h j A D y
structure Nsh where
 L:Lcs
 key:Lis
 X:Lis
 U:Lis
 tail:Lcs
def trN (b o:Nat) (n:Nsh):List (Addr × Kd):=
 [(⟨b,o,none⟩,.i)]++(trK n.L++([(⟨b,o+2,none⟩,.o)]++(trL .i n.key.1 n.key.2.1++(trL .b n.X.1 n.X.2.1++(trL .i n.U.1 n.U.2.1++([(⟨b,o+6,none⟩,.i)]++trK n.tail))))))
def jN (b:Nat):Nat->List Nsh->List (Addr × Kd)
 | _,[]=>[]
 | off,n::ns=>trN b off n++jN b (off+8) ns
theorem aBz (b:Nat):∀ (h:List Nsh) (off k:Nat) (j:k<h.length),jN b off (h.take (k+1))=jN b off (h.take k)++trN b (off+k*8) h[k]
 | x::xs,off,0,_=>by simp [jN]
 | x::xs,off,k+1,j=>by
   have ih:=aBz b xs (off+8) k (by simpa using j);simp only [List.take_succ_cons,jN,ih,List.getElem_cons_succ,List.append_assoc];rw [show off+8+k*8=off+(k+1)*8 by omega]
theorem aDR (b:Nat):∀ (h:List Nsh) (off k:Nat),∃ r,jN b off h=jN b off (h.take k)++r
 | [],off,k=>⟨[],by simp [jN]⟩
 | x::xs,off,0=>⟨_,by simp [jN];rfl⟩
 | x::xs,off,k+1=>by
   obtain ⟨r,j⟩:=aDR b xs (off+8) k;exact ⟨r,by simp only [List.take_succ_cons,jN,List.append_assoc];rw [j]⟩
structure ShN (w:World) (b o:Nat) (n:Nsh):Prop where
 L:w.cell? ⟨b,o+1,none⟩=some n.L.v
 key:w.cell? ⟨b,o+3,none⟩=some n.key.v
 X:w.cell? ⟨b,o+4,none⟩=some n.X.v
 U:w.cell? ⟨b,o+5,none⟩=some n.U.v
 tail:w.cell? ⟨b,o+7,none⟩=some n.tail.v
 okl:Lcs.ok w n.L
 okk:n.key.ok
 okx:n.X.ok
 oku:n.U.ok
 okt:Lcs.ok w n.tail
theorem ShN.mrk {w:World} {b o:Nat} {n:Nsh} {l:List (Addr × Kd)} (h:ShN w b o n) (j:dD w l) (s:Int):ShN (mrk w s l) b o n:=
 ⟨jR j h.L,jR j h.key,jR j h.X,jR j h.U,jR j h.tail,h.okl.mrk j s,h.okk,h.okx,h.oku,h.okt.mrk j s⟩
theorem dD.left {w:World} {P Q:List (Addr × Kd)} (h:dD w (P++Q)):dD w P:=fun y j=>h y (List.mem_append_left _ j)
theorem dD.right {w:World} {P Q:List (Addr × Kd)} (h:dD w (P++Q)):dD w Q:=fun y j=>h y (List.mem_append_right _ j)
theorem dD.app {w:World} {P Q:List (Addr × Kd)} (h:dD w P) (u:dD w Q):dD w (P++Q):=fun y j=>(List.mem_append.1 j).elim (h y) (u y)
theorem dD.of {w:World} {P Q:List (Addr × Kd)} (h:dD w Q) (j:∀ y∈P,y∈Q):dD w P:=fun y u=>h y (j y u)
structure NF (W:World) (b o:Nat) (n:Nsh):Prop where
 c1:W.cell? ⟨b,o+1,none⟩=some (.slice n.L.1 n.L.2.1.length n.L.2.2)
 c3:W.cell? ⟨b,o+3,none⟩=some (.slice n.key.1 n.key.2.1 n.key.2.2)
 c4:W.cell? ⟨b,o+4,none⟩=some (.slice n.X.1 n.X.2.1 n.X.2.2)
 c5:W.cell? ⟨b,o+5,none⟩=some (.slice n.U.1 n.U.2.1 n.U.2.2)
 c7:W.cell? ⟨b,o+7,none⟩=some (.slice n.tail.1 n.tail.2.1.length n.tail.2.2)
 k0:∃ z,W.cell? ⟨b,o,none⟩=some (.int .i64 z)
 f0:W.frozen? ⟨b,o,none⟩=false
 k2:∃ z,W.cell? ⟨b,o+2,none⟩=some (.bool z)
 f2:W.frozen? ⟨b,o+2,none⟩=false
 k6:∃ z,W.cell? ⟨b,o+6,none⟩=some (.int .i64 z)
 f6:W.frozen? ⟨b,o+6,none⟩=false
theorem aMO {w:World} {b o:Nat} {n:Nsh} {l:List (Addr × Kd)} (h:ShN w b o n) (y:dD w (trN b o n)) (u:dD w l) (s:Int):NF (mrk w s l) b o n:=by
 have j:=h.mrk u s;have D:=y (⟨b,o,none⟩,.i) (by simp [trN]);have A:=y (⟨b,o+2,none⟩,.o) (by simp [trN]);have E:=y (⟨b,o+6,none⟩,.i) (by simp [trN]);exact ⟨j.L,j.key,j.X,j.U,j.tail,oH l w s _ .i u D.1,by rw [kM];exact D.2,oH l w s _ .o u A.1,by rw [kM];exact A.2,oH l w s _ .i u E.1,by rw [kM];exact E.2⟩
theorem oV (w:World) (s T:Int) (Q S:List (Addr × Kd)) (h:T=s+Q.length):mrk (mrk w s Q) T S=mrk w s (Q++S):=by rw [yZ,h]
theorem aC3 (w:World) (s T:Int) (Q:List (Addr × Kd)) (a:Addr) (q:Kd) (h:T=s+Q.length):(mrk w s Q).setCell a (mkV q T)=mrk w s (Q++[(a,q)]):=by rw [rM,h]
theorem aCn (b off cap:Nat) (u:List Nsh) (s:Int) (w:World) (h:dD w (jN b off u)) (hs:∀ (j:Nat) (n:Nsh),u[j]?=some n->ShN w b (off+j*8) n) (hn:u.length<=1048576) (h0:0<=s) (h1:s+(jN b off u).length<=4611686018427387904) :
  Calls prog 27 #[.slice (some ⟨b,off,none⟩) u.length cap,.int .i64 s] w fun e w'=>e=.returned (.int .i64 (s+(jN b off u).length))/\mrk w s (jN b off u)=w':=by
 have HH:=aB h;have HS:=aB hs;clear h hs
 go_enter func27,ntmps27
 go_wp2
 go_loopw [1,5] (fun t i W=>∃ k:Nat,k<=u.length/\i=.int .i64 k/\t=.int .i64 (s+(jN b off (u.take k)).length)/\W=mrk w s (jN b off (u.take k))) (fun _ i _=>u.length - (intOf i).toNat)
 case atStart=>exact ⟨0,Nat.zero_le _,rfl,by simp [jN],by simp [jN,mrk]⟩
 case round=>
  obtain ⟨k,hk,rfl,rfl,hW⟩:=hrel
  by_cases d5:k<u.length
  ·have ht:=aBz b u off k d5;obtain ⟨r,hr⟩:=aDR b u off (k+1);have d4:(jN b off u).length=(jN b off (u.take k)).length+(trN b (off+k*8) u[k]).length+r.length:=(by rw [hr,ht];simp;omega);have c8:dD w (jN b off (u.take k)++trN b (off+k*8) u[k]):=(by rw [<- ht];rw [hr] at HH;exact HH.out.left);have sh:=HS.out k u[k] (by simp [d5]);have HN:Hid (jN b off (u.take (k+1))=jN b off (u.take k)++trN b (off+k*8) u[k]):=ht;clear ht hr;generalize u[k]=n at *;generalize jN b off (u.take k)=Q at *;have okN:=c8.right;have d0:=c8.left
   have d2:(trN b (off+k*8) n).length=3+(trK n.L).length+n.key.2.1+n.X.2.1+n.U.2.1+(trK n.tail).length:=by
    simp only [trN,List.length_append,List.length_singleton,nJ _ _ sh.okk,nJ _ _ sh.okx,nJ _ _ sh.oku];omega
   have s2:dD w (trK n.L):=okN.of (by simp only [trN,List.mem_append];intro y hy;simp [hy]);have s4:dD w (trL .i n.key.1 n.key.2.1):=okN.of (by simp only [trN,List.mem_append];intro y hy;simp [hy]);have s5:dD w (trL .b n.X.1 n.X.2.1):=okN.of (by simp only [trN,List.mem_append];intro y hy;simp [hy]);have s6:dD w (trL .i n.U.1 n.U.2.1):=okN.of (by simp only [trN,List.mem_append];intro y hy;simp [hy]);have s8:dD w (trK n.tail):=okN.of (by simp only [trN,List.mem_append];intro y hy;simp [hy]);have s1:dD w [((⟨b,off+k*8,none⟩:Addr),Kd.i)]:=okN.of (by simp [trN]);have s3:dD w [((⟨b,off+k*8+2,none⟩:Addr),Kd.o)]:=okN.of (by simp [trN]);have s7:dD w [((⟨b,off+k*8+6,none⟩:Addr),Kd.i)]:=okN.of (by simp [trN]);have O:=aB (fun (l:List (Addr × Kd)) (hl:dD w l)=>aMO sh okN hl s);have A:=aB sh;have O0:=aB d0;have O1:=aB (O0.out.app s1);have O2:=aB (O1.out.app s2);have O3:=aB (O2.out.app s3);have O4:=aB (O3.out.app s4);have O5:=aB (O4.out.app s5);have O6:=aB (O5.out.app s6);have O7:=aB (O6.out.app s7);have G2:=aB s2;have G4:=aB s4;have G5:=aB s5;have G6:=aB s6;have G8:=aB s8;have g8:0<=s+(Q.length:Int):=(by omega);have h2:s+(Q.length:Int)+3+(trK n.L).length+n.key.2.1+n.X.2.1+n.U.2.1+(trK n.tail).length<=4611686018427387904:=(by omega);have k3:=aB d2;clear c8 okN d0 s1 s2 s3 s4 s5 s6 s7 s8 sh d2 d4;obtain ⟨T,hT⟩:∃ T:Int,T=s+Q.length:=⟨_,rfl⟩;have HT:=aB hT;rw [<- hT] at g8 h2 ⊢;clear hT;subst hW;obtain ⟨Q1,H⟩:∃ Q1,Q1=Q++[((⟨b,off+k*8,none⟩:Addr),Kd.i)]:=⟨_,rfl⟩;obtain ⟨Q2,E⟩:∃ Q2,Q2=Q1++trK n.L:=⟨_,rfl⟩;obtain ⟨Q3,J⟩:∃ Q3,Q3=Q2++[((⟨b,off+k*8+2,none⟩:Addr),Kd.o)]:=⟨_,rfl⟩;obtain ⟨Q4,M⟩:∃ Q4,Q4=Q3++trL .i n.key.1 n.key.2.1:=⟨_,rfl⟩;obtain ⟨S,D⟩:∃ S,S=Q4++trL .b n.X.1 n.X.2.1:=⟨_,rfl⟩;obtain ⟨Q6,G⟩:∃ Q6,Q6=S++trL .i n.U.1 n.U.2.1:=⟨_,rfl⟩;obtain ⟨Q7,N⟩:∃ Q7,Q7=Q6++[((⟨b,off+k*8+6,none⟩:Addr),Kd.i)]:=⟨_,rfl⟩;obtain ⟨Q8,b0⟩:∃ Q8,Q8=Q7++trK n.tail:=⟨_,rfl⟩;have d3:Hid (Q8=Q++trN b (off+k*8) n):=(by unfold Hid;rw [b0,N,G,D,M,J,E,H];simp only [trN,List.append_assoc]);rw [<- H] at O1 O2 O3 O4 O5 O6 O7;rw [<- E] at O2 O3 O4 O5 O6 O7;rw [<- J] at O3 O4 O5 O6 O7;rw [<- M] at O4 O5 O6 O7;rw [<- D] at O5 O6 O7;rw [<- G] at O6 O7;rw [<- N] at O7;have T1:Hid (T+1=s+Q1.length):=(by unfold Hid;rw [H,HT.out];simp;omega);have T2:Hid (T+1+(trK n.L).length=s+Q2.length):=(by unfold Hid;rw [E,List.length_append,T1.out];simp;omega);have T3:Hid (T+1+(trK n.L).length+1=s+Q3.length):=(by unfold Hid;rw [J,List.length_append,T2.out];simp;omega);have T4:Hid (T+1+(trK n.L).length+1+n.key.2.1=s+Q4.length):=(by unfold Hid;rw [M,List.length_append,nJ _ _ A.out.okk,T3.out];simp;omega);have T5:Hid (T+1+(trK n.L).length+1+n.key.2.1+n.X.2.1=s+S.length):=(by unfold Hid;rw [D,List.length_append,nJ _ _ A.out.okx,T4.out];simp;omega);have T6:Hid (T+1+(trK n.L).length+1+n.key.2.1+n.X.2.1+n.U.2.1=s+Q6.length):=(by unfold Hid;rw [G,List.length_append,nJ _ _ A.out.oku,T5.out];simp;omega);have T7:Hid (T+1+(trK n.L).length+1+n.key.2.1+n.X.2.1+n.U.2.1+1=s+Q7.length):=(by unfold Hid;rw [N,List.length_append,T6.out];simp;omega);have T8:Hid (T+1+(trK n.L).length+1+n.key.2.1+n.X.2.1+n.U.2.1+1+(trK n.tail).length=s+Q8.length):=(by unfold Hid;rw [b0,List.length_append,T7.out];simp;omega);have e1:Hid ((mrk w s Q).setCell ⟨b,off+k*8,none⟩ (.int .i64 T)=mrk w s Q1):=(by unfold Hid;rw [H];exact aC3 w s T Q _ .i HT.out);have e2:Hid (mrk (mrk w s Q1) (T+1) (trK n.L)=mrk w s Q2):=(by unfold Hid;rw [E];exact oV w s _ Q1 _ T1.out);have e3:Hid ((mrk w s Q2).setCell ⟨b,off+k*8+2,none⟩ (.bool ((T+1+(trK n.L).length)%3==0))=mrk w s Q3):=(by unfold Hid;rw [J];exact aC3 w s _ Q2 _ .o T2.out);have e4:Hid (mrk (mrk w s Q3) (T+1+(trK n.L).length+1) (trL .i n.key.1 n.key.2.1)=mrk w s Q4):=(by unfold Hid;rw [M];exact oV w s _ Q3 _ T3.out);have e5:Hid (mrk (mrk w s Q4) (T+1+(trK n.L).length+1+n.key.2.1) (trL .b n.X.1 n.X.2.1)=mrk w s S):=(by unfold Hid;rw [D];exact oV w s _ Q4 _ T4.out);have e6:Hid (mrk (mrk w s S) (T+1+(trK n.L).length+1+n.key.2.1+n.X.2.1) (trL .i n.U.1 n.U.2.1)=mrk w s Q6):=(by unfold Hid;rw [G];exact oV w s _ S _ T5.out);have e7:Hid ((mrk w s Q6).setCell ⟨b,off+k*8+6,none⟩ (.int .i64 (T+1+(trK n.L).length+1+n.key.2.1+n.X.2.1+n.U.2.1))=mrk w s Q7):=(by unfold Hid;rw [N];exact aC3 w s _ Q6 _ .i T6.out);have e8:Hid (mrk (mrk w s Q7) (T+1+(trK n.L).length+1+n.key.2.1+n.X.2.1+n.U.2.1+1) (trK n.tail)=mrk w s Q8):=(by unfold Hid;rw [b0];exact oV w s _ Q7 _ T7.out);clear H E J M D G N b0 T1 T2 T3 T4 T5 T6 T7;obtain ⟨c1,c3,c4,c5,c7,⟨z0,k0⟩,f0,⟨z2,k2⟩,f2,⟨z6,Z⟩,Y⟩:=O.out Q O0.out
   go_wp2_with fail
   rw [e1.out];refine (kW n.L (T+1) (mrk w s Q1) (A.out.okl.mrk O1.out s) (G2.out.mrk O1.out s) (by omega) (by omega)).mono ?_;rintro e j5 ⟨rfl,rfl⟩;rw [e2.out];clear c1 c3 c4 c5 c7 k0 f0 k2 f2 Z Y;obtain ⟨c1,c3,c4,c5,c7,⟨z0,k0⟩,f0,⟨z2,k2⟩,f2,⟨z6,Z⟩,Y⟩:=O.out Q2 O2.out
   go_wp2_with fail
   rw [e3.out];refine (vB n.key (T+1+(trK n.L).length+1) (mrk w s Q3) A.out.okk (G4.out.mrk O3.out s) (by omega) (by omega)).mono ?_;rintro e i9 ⟨rfl,rfl⟩;rw [e4.out];clear c1 c3 c4 c5 c7 k0 f0 k2 f2 Z Y;obtain ⟨c1,c3,c4,c5,c7,⟨z0,k0⟩,f0,⟨z2,k2⟩,f2,⟨z6,Z⟩,Y⟩:=O.out Q4 O4.out
   go_wp2_with fail
   refine (tH n.X (T+1+(trK n.L).length+1+n.key.2.1) (mrk w s Q4) A.out.okx (G5.out.mrk O4.out s) (by omega) (by omega)).mono ?_;rintro e i8 ⟨rfl,rfl⟩;rw [e5.out];clear c1 c3 c4 c5 c7 k0 f0 k2 f2 Z Y;obtain ⟨c1,c3,c4,c5,c7,⟨z0,k0⟩,f0,⟨z2,k2⟩,f2,⟨z6,Z⟩,Y⟩:=O.out S O5.out
   go_wp2_with fail
   refine (vB n.U (T+1+(trK n.L).length+1+n.key.2.1+n.X.2.1) (mrk w s S) A.out.oku (G6.out.mrk O5.out s) (by omega) (by omega)).mono ?_;rintro e i7 ⟨rfl,rfl⟩;rw [e6.out];clear c1 c3 c4 c5 c7 k0 f0 k2 f2 Z Y;obtain ⟨c1,c3,c4,c5,c7,⟨z0,k0⟩,f0,⟨z2,k2⟩,f2,⟨z6,Z⟩,Y⟩:=O.out Q6 O6.out
   go_wp2_with fail
   rw [e7.out];refine (kW n.tail (T+1+(trK n.L).length+1+n.key.2.1+n.X.2.1+n.U.2.1+1) (mrk w s Q7) (A.out.okt.mrk O7.out s) (G8.out.mrk O7.out s) (by omega) (by omega)).mono ?_;rintro e k9 ⟨rfl,rfl⟩;rw [e8.out];clear c1 c3 c4 c5 c7 k0 f0 k2 f2 Z Y;go_wp2
   go_roundw
   case rel=>exact ⟨k+1,by omega,by go_num,by rw [HN.out,<- d3.out,<- T8.out],by rw [HN.out,<- d3.out]⟩
   case measure=>simp [intOf];omega
  ·go_wp2;go_ret;have g4:k=u.length:=(by omega);subst g4;rw [List.take_length] at *;exact ⟨rfl,by first | rfl | exact hW.symm⟩
theorem nE.grown {w w':World} {x:Addr} {q:Kd} (h:nE w x q) (g:w.grownBy w' none):nE w' x q:=by
 cases q<;>(obtain ⟨z,h⟩:=h;exact ⟨z,g.cell h (by simp)⟩)
theorem aDk {w w':World} {x:Addr} {v:Value} (j:w.cell? x=some v) (h:w.frozen? x=false) (g:w.grownBy w' none):w'.frozen? x=false:=
 (World.frozen?_of_block (g.block x.block (World.block_lt_of_cell? w x j) (by simp))).trans h
theorem dD.grown {w w':World} {l:List (Addr × Kd)} (h:dD w l) (g:w.grownBy w' none):dD w' l:=fun y A=>by
 obtain ⟨j,u⟩:=h y A;obtain ⟨v,hv⟩:=Option.isSome_iff_exists.1 j.isS;exact ⟨j.grown g,aDk hv u g⟩
theorem ShC.grown {w w':World} {b off:Nat} {xs:List Lis} (h:ShC w b off xs) (g:w.grownBy w' none):ShC w' b off xs:=fun j x u=>⟨g.cell (h j x u).1 (by simp),(h j x u).2⟩
theorem Lcs.ok.grown {w w':World} {x:Lcs} (h:Lcs.ok w x) (g:w.grownBy w' none):Lcs.ok w' x:=by
 obtain ⟨y,j⟩:=h;refine ⟨?_,j⟩;rcases y with h | ⟨b,off,h,u⟩
 ·exact .inl h
 ·exact .inr ⟨b,off,h,u.grown g⟩
theorem ShN.grown {w w':World} {b o:Nat} {n:Nsh} (h:ShN w b o n) (g:w.grownBy w' none):ShN w' b o n:=
 ⟨g.cell h.L (by simp),g.cell h.key (by simp),g.cell h.X (by simp),g.cell h.U (by simp),g.cell h.tail (by simp),h.okl.grown g,h.okk,h.okx,h.oku,h.okt.grown g⟩
abbrev Lns:=Option Addr × List Nsh × Nat
def Lns.v (x:Lns):Value:=.slice x.1 x.2.1.length x.2.2
def trM:Lns->List (Addr × Kd)
 | (none,_,_)=>[]
 | (some a,ns,_)=>jN a.block a.off ns
def Lns.ok (w:World) (x:Lns):Prop:=(x.2.1=[]\/∃ b off,x.1=some ⟨b,off,none⟩/\∀ (j:Nat) (n:Nsh),x.2.1[j]?=some n->ShN w b (off+j*8) n)/\x.2.1.length<=1048576
theorem aGk (a:Option Addr) (c:Nat):trM (a,[],c)=[]:=by cases a<;>rfl
theorem Lns.ok.grown {w w':World} {x:Lns} (h:Lns.ok w x) (g:w.grownBy w' none):Lns.ok w' x:=by
 obtain ⟨u,A⟩:=h;refine ⟨?_,A⟩;rcases u with h | ⟨b,off,h,y⟩
 ·exact .inl h
 ·exact .inr ⟨b,off,h,fun j n D=>(y j n D).grown g⟩
theorem aBs (x:Lns) (s:Int) (w:World) (u:Lns.ok w x) (h:dD w (trM x)) (D:0<=s) (y:s+(trM x).length<=4611686018427387904) :
  Calls prog 27 #[x.v,.int .i64 s] w fun e w'=>e=.returned (.int .i64 (s+(trM x).length))/\mrk w s (trM x)=w':=by
 obtain ⟨a,xs,cap⟩:=x;obtain ⟨u,A⟩:=u;simp only [Lns.v] at *;rcases u with rfl | ⟨b,off,rfl,j⟩
 ·rw [aGk];clear h y;simp only [List.length_nil]
  go_enter func27,ntmps27
  go_wp2;refine wp_loop_rounds 1 ?_;rw [rounds_succ];go_wp2;go_ret;exact ⟨by simp,rfl⟩
 ·exact aCn b off cap xs s w h j A D y
theorem aDH (x:Lns) (y:Lcs) (s:Int) (w:World) (D:Lns.ok w x) (A:Lcs.ok w y) (h:dD w (trM x++trK y)) (H:0<=s) (O:s+(trM x).length+(trK y).length<=4611686018427387904) :
  Calls prog 10 #[.agg #[x.v,y.v],.int .i64 s] w fun e w'=>e=.returned (.int .i64 (s+(trM x).length+(trK y).length))/\mrk (w.alloc (Obj.cells #[x.v,y.v] 33)) s (trM x++trK y)=w':=by
 have u:=World.grownBy_alloc w (Obj.cells #[x.v,y.v] 33) none;have j:=h.grown u;have G:(w.alloc (Obj.cells #[x.v,y.v] 33)).cell? ⟨w.heap.size,1,none⟩=some (.slice y.1 y.2.1.length y.2.2):=(by simp [go_sem,Lcs.v]);have M:=jR (s:=s) j.left G;have J:=aB (aBs x s _ (D.grown u) j.left H (by omega));have E:=aB (kW y (s+(trM x).length) (mrk (w.alloc (Obj.cells #[x.v,y.v] 33)) s (trM x)) ((A.grown u).mrk j.left s) (j.right.mrk j.left s) (by omega) (by omega));rw [oV _ _ _ _ _ rfl] at E;unfold Lns.v Lcs.v at *;clear j h D A u
 go_enter func10,ntmps10
 go_wp2_with fail
 refine J.out.mono ?_;rintro e L ⟨rfl,rfl⟩
 go_wp2_with fail
 refine E.out.mono ?_;rintro e N ⟨rfl,rfl⟩;go_wp2;go_ret;exact ⟨rfl,rfl⟩
end Go.Proofs.YtgifkcpdihphlaaGreatDoor
