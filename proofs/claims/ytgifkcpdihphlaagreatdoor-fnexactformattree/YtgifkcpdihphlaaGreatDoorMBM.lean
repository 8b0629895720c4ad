import Derived.Test.YtgifkcpdihphlaaGreatDoorMBL
set_option maxHeartbeats 16000000
set_option maxRecDepth 100000
namespace Go.Proofs.YtgifkcpdihphlaaGreatDoor
open Tryz
open Go.RowKit
theorem aBq (pb:Nat) (w0 w:World) (a0 a1 a2 a3 wv tv hv:Value) (ts:List Tk) (tx:List Int) (col:Int) (ch:List Int) (h:Pr pb w0 w a0 a1 a2 a3 wv tv hv ts tx col ch) (ind:Int) (c1:0<=ind) (c9:ind<=4000) (hl:tx.length<=600000000) :
  Calls prog 95 #[.pointer (some ⟨pb,0,none⟩),.int .i64 ind] w fun e w'=>e=.returned (.tuple #[])/\∃ tv',Pr pb w0 w' a0 a1 a2 a3 wv tv' hv ts (tx++List.replicate ind.toNat 32) ind ch:=by
 obtain ⟨i0,hi,U,a7,a8⟩:=info_parts lL;have HP:=bJ h;obtain ⟨m,hm⟩:∃ m:Nat,ind=(m:Int):=⟨ind.toNat,by omega⟩;subst hm;rw [Int.toNat_natCast];clear h
 go_enter func95,ntmps95
 go_wp2
 go_loopw [5] (fun i wr=>∃ (k:Nat) (tv':Value),k<=m/\i=.int .i64 k/\Pr pb w0 wr a0 a1 a2 a3 wv tv' hv ts (tx++List.replicate k 32) col ch) (fun i _=>m - (intOf i).toNat)
 case atStart=>exact ⟨0,tv,Nat.zero_le _,rfl,by simpa using HP.out⟩
 case round=>
  obtain ⟨k,tv',hk,rfl,D⟩:=hrel;have HQ:=bJ D;have c5:=D.c5;have f5:=D.fz 5;have c6:=D.c6;have f6:=D.fz 6;have a4:=D.lt;have b0:=World.ownsRow.lt D.trow
  by_cases d0:k<m
  ·obtain ⟨ta,b3,a6,_,_⟩:=bD D.trow;have b2:(tx++List.replicate k 32).length<=600004000:=(by simp;omega);have M:tx++List.replicate (k+1) 32=(tx++List.replicate k 32)++[32]:=(by rw [List.replicate_succ',List.append_assoc]);have y:wr.grownBy (wr.alloc (.cells #[.int .u8 32] 5)) none:=gWA;have H:tv'.ownBlock≠some pb:=fun e=>by have:=b0 pb e;omega
   have J:=bJ H;have G:wr.ownsRow (pb+1) 5 1 tv' (tx++List.replicate k 32).length ((tx++List.replicate k 32).map (Value.int .u8)):=D.trow;have N:=bJ G;have S:=y.cell c5 (by simp);have a5:(wr.alloc (.cells #[.int .u8 32] 5)).frozen? ⟨pb,5,none⟩=false:=(World.frozen?_of_block (y.block pb a4 (by simp))).trans f5;have Z:=bJ y;have a9:=bJ M;subst a6;clear H D M c6 f6 G y;generalize hX:tx++List.replicate k 32=X at *;clear hX
   go_wp2_with (at_builtin;refine wpList_append_own_at _ rfl _ _ 27 rfl (pb+1) 5 i0 (.int .u8 0) 1 1 underlying27 hi U a7 a8 rfl (by decide) _ _ _ rfl (World.ownsRow.alloc N.out _) ⟨wr.heap.size,0,none⟩ 1 1 [.int .u8 32] rfl rfl (qE _ _ _) (by intro u hu;simp at hu;subst hu;rfl) (by unfold maxLen;omega) (by omega) (by simp;omega) ?_;intro v1 w1 A j _ O;have x5:=j.cell S (fun e=>J.out e.symm);have y5:w1.frozen? ⟨pb,5,none⟩=false:=(World.frozen?_of_block (j.block pb (by simp;omega) (fun e=>J.out e.symm))).trans a5;obtain ⟨va,E,Y,_,_⟩:=bD A;subst Y)
   go_roundw
   case rel=>
    refine ⟨k+1,.slice va (X.length+1) E,by omega,by go_num,?_⟩;rw [a9.out];refine Pr.X (HQ.out.K Z.out) (tv':=.slice va (X.length+1) E) j ?_ ?_
    ·unfold OwB Ow;rw [List.map_append,List.length_append];exact A
    ·rcases O with e | e
     ·exact .inl e
     ·exact .inr ⟨_,e,by simp⟩
   case measure=>simp [intOf];omega
  ·have L:k=m:=(by omega);subst L;clear D;go_wp2
   go_returns
   exact ⟨rfl,tv',HQ.out.column _⟩
theorem aDI (pb:Nat) (w0 w:World) (a0 a1:Value) (nb:Nat) (a3 wv tv:Value) (g cap l:Nat) (ts:List Tk) (tx:List Int) (col:Int) (ch:List Int) (h:Pr pb w0 w a0 a1 (.map (some nb)) a3 wv tv (.slice (some ⟨g,0,none⟩) l cap) ts tx col ch)
  (b:Nat) (fl:Bool) (j:Nat) (H:∀ W,w.grownBy W none->(Instr.lookup 103 (.map (some nb)) (.pointer (some ⟨b,0,none⟩)) false).run prog W=.ok (.int .i64 (j:Int)) W) (N:l=ch.length) (L:j<ch.length) (M:ch.length<=1000000) :
  Calls prog 132 #[.pointer (some ⟨pb,0,none⟩),.pointer (some ⟨b,0,none⟩),.bool fl] w fun e w'=>e=.returned (.tuple #[])/\Pr pb w0 w' a0 a1 (.map (some nb)) a3 wv tv (.slice (some ⟨g,0,none⟩) l cap) ts tx col (ch.set j (if fl then 1 else 2))/\w'.heap.size=w.heap.size/\∀ k,k≠g->w'.heap[k]?=w.heap[k]?:=by
 have X:=h.c2;have Y:=h.c7;have S:=H w.drew ⟨rfl,rfl,rfl,Nat.le_refl _,fun _ _ _=>rfl⟩;have U:=bJ h;obtain ⟨x,G⟩:∃ x,ch[j]?=some x:=⟨_,List.getElem?_eq_getElem L⟩;subst N;have y:OwI (pb+1) w (.slice (some ⟨g,0,none⟩) ch.length cap) ch:=h.hrow;have D:w.ownsRow (pb+1) 3 1 (.slice (some ⟨g,0,none⟩) ch.length cap) ch.length (ch.map (Value.int .i64)):=y;have E:=World.ownsRow.cellAt D j (by omega);rw [List.getElem?_map,G] at E;simp only [Option.map_some] at E;have O:=World.ownsRow.frozenAt D j;have u:Hid (∀ x,Pr pb w0 (w.setCell ⟨g,j,none⟩ (.int .i64 x)).drew a0 a1 (.map (some nb)) a3 wv tv (.slice (some ⟨g,0,none⟩) ch.length cap) ts tx col (ch.set j x)):=fun x=>(h.choice rfl j x).K ⟨rfl,rfl,rfl,Nat.le_refl _,fun _ _ _=>rfl⟩;have J:IntKind.i64.wrap (j:Int)=(j:Int):=(by simp [IntKind.wrap,IntKind.bits,IntKind.signed];omega);clear h y D G H;cases fl
 ·go_enter func132,ntmps132
  go_wp2
  go_region
  all_goals
   go_wp2
   go_returns
   exact ⟨rfl,u.out 2,by simp,fun k A=>heap_setCell_other w ⟨g,j,none⟩ k _ (fun e=>A (by simpa using e))⟩
 ·go_enter func132,ntmps132
  go_wp2
  go_region
  all_goals
   go_wp2
   go_returns
   exact ⟨rfl,u.out 1,by simp,fun k A=>heap_setCell_other w ⟨g,j,none⟩ k _ (fun e=>A (by simpa using e))⟩
theorem aCy (j:Nat) (width g h:Int) (w:World) (u:w.cell? ⟨j,0,none⟩=some (.int .i64 width)) :
  Calls prog 53 #[.int .i64 g,.int .i64 h,.pointer (some ⟨j,0,none⟩)] w fun e w'=>e=.returned (.bool (decide (h<=width)))/\w=w':=by
 go_enter func53,ntmps53
 go_wp2;go_ret;exact ⟨rfl,rfl⟩
theorem aCH (args:Array Value) (W:World):(callFunc 53 args).run prog W=.ok (.enter 53 args) W:=by kernel_rfl
def qR (fw col bw:Int) (d:Int->Bool):Bool:=if fw = -1 then false else d (col+fw+bw)
theorem aDW (pb:Nat) (w0 w:World) (fb nb H:Nat) (a1 cap:Value) (wv tv hv:Value) (ts:List Tk) (tx:List Int) (col:Int) (ch:List Int) (h:Pr pb w0 w (.map (some fb)) a1 (.map (some nb)) (.func (.func H) #[] #[cap]) wv tv hv ts tx col ch)
  (b:Nat) (y:Int) (L:Bool) (u:Int) (N:∀ W,w.grownBy W none->(Instr.lookup 101 (.map (some fb)) (.iface 195 (.pointer (some ⟨b,0,none⟩))) false).run prog W=.ok (.int .i64 u) W) (j:Nat)
  (M:∀ W,w.grownBy W none->(Instr.lookup 103 (.map (some nb)) (.pointer (some ⟨b,0,none⟩)) false).run prog W=.ok (.int .i64 (j:Int)) W) (d:Int->Bool)
  (U:∀ W,w.grownBy W none->Calls prog H #[.int .i64 (j:Int),.int .i64 (col+u+y),cap] W fun e w'=>e=.returned (.bool (d (col+u+y)))/\W=w')
  (hE:∀ (args:Array Value) (W:World),(callFunc H args).run prog W=.ok (.enter H args) W) (a4 : -1<=u/\u<=1000000) (a8 : -1000000<=col/\col<=1000000) (a7 : -1000000<=y/\y<=1000000) :
  Calls prog 131 #[.pointer (some ⟨pb,0,none⟩),.pointer (some ⟨b,0,none⟩),.agg #[.int .i64 y,.bool L]] w fun e w'=>e=.returned (.bool (qR u col y d))/\w.grownBy w' none:=by
 have A:w.grownBy (w.alloc (.cells #[.int .i64 y,.bool L] 155)) none:=gWA;have E:∀ q,w.grownBy ((w.alloc (.cells #[.int .i64 y,.bool L] 155)).drewN q) none:=fun q=>dT A q;have J:=bJ E;have c0:=A.cell h.c0 (by simp);have c2:=A.cell h.c2 (by simp);have c3:=A.cell h.c3 (by simp);have c6:=A.cell h.c6 (by simp);have a5:=h.lt;have hA:=N _ A;have X:∀ q,_:=fun q=>M _ (E q)
 have G:∀ q,Calls prog H #[.int .i64 (j:Int),.int .i64 (col+u+y),cap] ((w.alloc (.cells #[.int .i64 y,.bool L] 155)).drewN q) fun e w'=>e=.returned (.bool (d (col+u+y)))/\w'=(w.alloc (.cells #[.int .i64 y,.bool L] 155)).drewN q:=
  fun q=>(U _ (E q)).mono fun e w' h=>⟨h.1,h.2.symm⟩
 have S:=bJ G
 by_cases D:u = -1
 ·have O:Hid (qR u col y d=false):=(by unfold Hid qR;rw [if_pos D]);have e1:(u != -1)=false:=(by rw [D];rfl);clear h N M U A E G D
  go_enter func131,ntmps131
  go_wp2_with fail
  go_quiet (fail)
  go_wp2;go_ret;exact ⟨by rw [O.out];rfl,J.out _⟩
 ·have O:Hid (qR u col y d=d (col+u+y)):=(by unfold Hid qR;rw [if_neg D]);have e1:(u != -1)=true:=(by simpa using D);have Z:IntKind.i64.wrap (col+u)=col+u:=(by simp [IntKind.wrap,IntKind.bits,IntKind.signed];omega);have Y:IntKind.i64.wrap (col+u+y)=col+u+y:=(by simp [IntKind.wrap,IntKind.bits,IntKind.signed];omega);clear h N M U A E G D
  go_enter func131,ntmps131
  go_wp2_with fail
  go_quiet (refine Calls.quiet_of_same (S.out _))
  go_wp2;go_ret;exact ⟨by rw [O.out];rfl,J.out _⟩
structure Ctx (B:Nat) (wm:World) (l:List Value) (fb lb nb:Nat) (f0 f1 f2:Value->Option Value):Prop where
 once:lH (fun _=>False) wm l
 flats:∃ n,MapIs wm fb f0 n
 leads:∃ n,MapIs wm lb f1 n
 nums:P.MapIs wm nb f2 (gV l)
 t0:uA B wm l f0 fwV
 t1:uA B wm l f1 ldV
 t2:aFf l l.length f2
def cE (B:Nat) (wm:World) (l:List Value) (v:Value) (T:Tr) (n:Nat):Prop:=
 ∃ pre lT post,l=pre++lT++post/\cV wm v T lT/\Rep (fun _=>False) B wm v T/\n=gV pre
theorem rT (a b:List Value):gV (a++b)=gV a+gV b:=by unfold gV;rw [List.filter_append,List.length_append]
theorem pD {X:Nat->Prop} {B:Nat} {w:World} : ∀ {T:Tr} {v:Value} {l:List Value},Rep X B w v T->cV w v T l->gV l=bY T
 | .leaf p,v,l,hr,hp=>by
   simp only [cV] at hp;subst hp;simp only [Rep] at hr;simp only [bY];rcases hr with h | h | h | h | h | ⟨_,b,tv,h,_⟩
   ·rw [h.2];rfl
   ·rw [h.2];rfl
   ·rw [h.2];rfl
   ·rw [h.2];rfl
   ·rw [h.2];rfl
   ·rw [h];rfl
 | .un p x,v,l,hr,hp=>by
   simp only [Rep] at hr;simp only [cV] at hp;obtain ⟨M,u0,h3,h4,H,N,j⟩:=hr;obtain ⟨t,b,u,l1,hv,G,k2,S,L⟩:=hp
   have A:b=M:=by
    rcases j with ⟨_,j⟩ | ⟨_,j⟩<;>(rw [hv] at j;simp at j;exact j.2)
   subst A;have U:u0=u:=(by rw [H] at G;exact Option.some.inj G);subst U;subst L;rw [rT,pD N S];simp only [bY];rcases j with ⟨j,D⟩ | ⟨j,D⟩
   ·rw [D,if_pos j];rfl
   ·rw [D,if_neg (by omega)];rfl
 | .bin p x y,v,l,hr,hp=>by
   simp only [Rep] at hr;simp only [cV] at hp;obtain ⟨M,u0,O,h3,h4,H,J,N,a4,j⟩:=hr;obtain ⟨t,b,u,u',l1,l2,hv,G,E,S,Z,L⟩:=hp
   have A:b=M:=by
    rcases j with ⟨_,j⟩ | ⟨_,j⟩<;>(rw [hv] at j;simp at j;exact j.2)
   subst A;have U:u0=u:=(by rw [H] at G;exact Option.some.inj G);have Y:O=u':=(by rw [J] at E;exact Option.some.inj E);subst U Y;subst L;rw [rT,rT,pD N S,pD a4 Z];simp only [bY];have h0:gV [v]=0:=(by rcases j with ⟨_,D⟩ | ⟨_,D⟩<;>(rw [D];rfl));rw [h0];rfl
section
variable {B:Nat} {wm:World} {l:List Value} {v:Value} {T:Tr} {n:Nat}
theorem cE.rep (h:cE B wm l v T n):Rep (fun _=>False) B wm v T:=by
 obtain ⟨_,_,_,_,_,h,_⟩:=h;exact h
theorem cE.mem (h:cE B wm l v T n):v∈l:=by
 obtain ⟨u,G,j,D,A,_,_⟩:=h;obtain ⟨E,y⟩:=A.last;rw [D,y];simp
theorem cE.key (h:cE B wm l v T n) (j:lH (fun _=>False) wm l):NKey wm v:=jG j h.mem h.rep
theorem cE.un {p:Pc} {x:Tr} (h:cE B wm l v (.un p x) n) :
  ∃ b u,wm.cell? ⟨b,0,none⟩=some u/\cE B wm l u x n/\
   ((p.k=8/\v=uG b/\∀ f2,aFf l l.length f2->f2 (.pointer (some ⟨b,0,none⟩))=some (.int .i64 ((n+bY x:Nat):Int)))\/(p.k=7/\v=.iface 190 (.pointer (some ⟨b,0,none⟩))/\wm.cell? ⟨b,1,none⟩=some (.int .i64 p.n))):=by
 obtain ⟨j,lT,y,G,U,J,M⟩:=h;have a8:=J;simp only [Rep] at J;simp only [cV] at U;obtain ⟨b0,u0,h3,h4,N,S,A⟩:=J;obtain ⟨t,b,u,D,hv,Y,Z,X,H⟩:=U
 have L:b=b0:=by
  rcases A with ⟨_,A⟩ | ⟨_,A⟩<;>(rw [hv] at A;simp at A;exact A.2)
 subst L;have hu:u0=u:=(by rw [N] at Y;exact Option.some.inj Y);subst hu;refine ⟨b,u0,N,⟨j,D,[v]++y,by rw [G,H];simp,X,S,M⟩,?_⟩;rcases A with ⟨A,E⟩ | ⟨A,E⟩
 ·refine .inl ⟨A,E,fun f2 hg=>?_⟩
  have O:l[(j++D).length]?=some (uG b):=by
   rw [G,H,show j++(D++[v])++y=(j++D)++([v]++y) by simp,List.getElem?_append_right (Nat.le_refl _),E];simp [uG]
  have:=hg.at_ (j++D).length b (List.getElem?_eq_some_iff.1 O).1 O;rw [this]
  have ht:l.take (j++D).length=j++D:=by
   rw [G,H,show j++(D++[v])++y=(j++D)++([v]++y) by simp];exact List.take_left
  rw [ht,rT,pD S X,M]
 ·exact .inr ⟨A,E,Z A⟩
theorem cE.bin {p:Pc} {x y:Tr} (h:cE B wm l v (.bin p x y) n) :
  ∃ b u J,wm.cell? ⟨b,0,none⟩=some u/\wm.cell? ⟨b,1,none⟩=some J/\cE B wm l u x n/\cE B wm l J y (n+bY x)/\
   ((p.k=6/\v=.iface 198 (.pointer (some ⟨b,0,none⟩)))\/(p.k=9/\v=.iface 202 (.pointer (some ⟨b,0,none⟩)))):=by
 obtain ⟨D,lT,j,U,hp,hr,S⟩:=h;simp only [Rep] at hr;simp only [cV] at hp;obtain ⟨b0,u0,H,h3,h4,X,G,h6,O,A⟩:=hr;obtain ⟨t,b,u,J,l1,Y,hv,k1,E,k3,N,Z⟩:=hp
 have M:b=b0:=by
  rcases A with ⟨_,A⟩ | ⟨_,A⟩<;>(rw [hv] at A;simp at A;exact A.2)
 subst M;have hu:u0=u:=(by rw [X] at k1;exact Option.some.inj k1);have L:H=J:=(by rw [G] at E;exact Option.some.inj E);subst hu L;refine ⟨b,u0,H,X,G,⟨D,l1,Y++[v]++j,by rw [U,Z];simp,k3,h6,S⟩,⟨D++l1,Y,[v]++j,by rw [U,Z];simp,N,O,?_⟩,A⟩;rw [rT,pD h6 k3,S]
end
section
variable {B:Nat} {wm:World} {l:List Value} {fb lb nb:Nat} {f0 f1 f2:Value->Option Value}
theorem Ctx.flat (h:Ctx B wm l fb lb nb f0 f1 f2) {v:Value} {T:Tr} {n:Nat} (hv:cE B wm l v T n) {W:World} (j:wm.grownBy W none) :
  (Instr.lookup 101 (.map (some fb)) v false).run prog W=.ok (.int .i64 (flatW T)) W:=by
 obtain ⟨m,u⟩:=h.flats;have:=(u.K j).run_lookup (z:=.int .i64 0) underlying101 rfl ((hv.key h.once).K j);rw [h.t0 v hv.mem T hv.rep] at this;exact this
theorem Ctx.L (h:Ctx B wm l fb lb nb f0 f1 f2) {v:Value} {T:Tr} {n:Nat} (hv:cE B wm l v T n) {W:World} (j:wm.grownBy W none) :
  (Instr.lookup 102 (.map (some lb)) v false).run prog W=.ok (.agg #[.int .i64 (leadT T).1,.bool (leadT T).2]) W:=by
 obtain ⟨m,u⟩:=h.leads;have:=(u.K j).run_lookup (z:=.agg #[.int .i64 0,.bool false]) underlying102 rfl ((hv.key h.once).K j);rw [h.t1 v hv.mem T hv.rep] at this;exact this
theorem Ctx.num (h:Ctx B wm l fb lb nb f0 f1 f2) {b j:Nat} (D:uG b∈l) (A:f2 (.pointer (some ⟨b,0,none⟩))=some (.int .i64 (j:Int))) {W:World} (u:wm.grownBy W none) :
  (Instr.lookup 103 (.map (some nb)) (.pointer (some ⟨b,0,none⟩)) false).run prog W=.ok (.int .i64 (j:Int)) W:=by
 obtain ⟨_,y,G,E⟩:=h.once.lt _ _ D;have:=(h.nums.K u).run_lookup (z:=.int .i64 0) underlying103 rfl ((P.NKey.ptr b y G E).K u);rw [A] at this;exact this
end
theorem dW {a b:World} {r:Option Nat} (h:a.grownBy b r):a.grownBy b.drew r:=⟨h.os,h.tape,h.output,h.size,h.block⟩
theorem iX {w:World} {a:Addr} {u:Value} (h:w.cell? a=some u):∀ o,(w.alloc o).cell? a=some u:=fun o=>dS o h
theorem aJG (B pb:Nat) (wm w:World) (O:pb=wm.heap.size) (l:List Value) (a0 a1 a2 a3 wv tv hv:Value) (ts:List Tk) (tx:List Int) (col:Int) (ch:List Int) (h:Pr pb wm w a0 a1 a2 a3 wv tv hv ts tx col ch)
  (v:Value) (p:Pc) (x:Tr) (n:Nat) (ind:Int) (fl:Bool) (A:Int) (D:Bool) (S:cE B wm l v (.un p x) n) (hk:p.k=7) (hi:0<=ind/\ind<=4000) (hp:0<=p.n/\p.n<=4000) (hl:ts.length<=1000000) :
  Calls prog 98 #[.pointer (some ⟨pb,0,none⟩),nI v ind fl A D] w fun e w'=>e=.returned (.tuple #[])/\∃ u wv',cE B wm l u x n/\Pr pb wm w' a0 a1 a2 a3 wv' tv hv (ts++[⟨u,x,n,ind+p.n,fl,A,D⟩]) tx col ch:=by
 subst O;obtain ⟨b,u,U,J,E⟩:=S.un;rcases E with ⟨h1,_⟩ | ⟨_,N,Y⟩
 ·omega
 have j:=aC h.bel;have b2:=iX (j.cell U (by simp));have a7:=iX (j.cell Y (by simp));have H:Hid (∀ o,w.grownBy (w.alloc o).drew.drew none):=fun o=>dW (dW gWA);obtain ⟨G,M,y⟩:=J.rep.form;subst y;subst N;obtain ⟨e1,e2,e3,e4,e5,e6,e7,e8,e9,a9⟩:=rA (.pointer (some ⟨b,0,none⟩));have a6:=h.lt;have Z:=bJ h;have HU:=bJ J;have X:=wR 190 G (.pointer (some ⟨b,0,none⟩)) M (ind+p.n) fl A D;have HO:=bJ X;unfold nI at *;clear h S J U Y j X
 go_enter func98,ntmps98
 go_wp2_with fail
 go_region
 go_wp2_with fail
 go_region_with (first | (go_at_call 130;refine (HO.out _).mono ?_;rintro e w2 ⟨rfl,g2⟩) | (go_at_call 94;refine (jS _ wm w2 _ _ _ _ _ _ _ _ _ _ _ (Z.out.K (aA (H.out _) g2)) ⟨.iface G M,x,n,ind+p.n,fl,A,D⟩ ⟨_,_,rfl⟩ hl).mono ?_;rintro e w3 ⟨rfl,⟨wv',L,_⟩,_,_⟩))
 all_goals
  go_wp2
  go_returns
  exact ⟨rfl,.iface G M,wv',HU.out,L⟩
theorem aK6 (B pb:Nat) (wm w:World) (a7:pb=wm.heap.size) (l:List Value) (a0 a1 a2 a3 wv tv hv:Value) (ts:List Tk) (tx:List Int) (col:Int) (ch:List Int) (h:Pr pb wm w a0 a1 a2 a3 wv tv hv ts tx col ch)
  (v:Value) (p:Pc) (x y:Tr) (n:Nat) (ind:Int) (fl:Bool) (L:Int) (M:Bool) (hn:cE B wm l v (.bin p x y) n) (hk:p.k=9) (hl:ts.length<=1000000) :
  Calls prog 98 #[.pointer (some ⟨pb,0,none⟩),nI v ind fl L M] w fun e w'=>e=.returned (.tuple #[])/\∃ u wv',cE B wm l u (if fl then y else x) (if fl then n+bY x else n)/\Pr pb wm w' a0 a1 a2 a3 wv' tv hv (ts++[⟨u,if fl then y else x,if fl then n+bY x else n,ind,fl,L,M⟩]) tx col ch:=by
 subst a7;obtain ⟨b,u,u',c0,c1,hu,J,O⟩:=hn.bin;rcases O with ⟨h1,_⟩ | ⟨_,a6⟩
 ·omega
 have D:=aC h.bel;have b9:=iX (D.cell c0 (by simp));have b5:=iX (D.cell c1 (by simp));have N:Hid (∀ o,w.grownBy (w.alloc o).drew none):=fun o=>dW gWA;obtain ⟨U,yu,G⟩:=hu.rep.form;obtain ⟨E,A,j⟩:=J.rep.form;subst G j;subst a6;obtain ⟨e1,e2,e3,e4,e5,e6,e7,e8,e9,b6⟩:=vE (.pointer (some ⟨b,0,none⟩));have b4:=h.lt;have HP:=bJ h;have HU:=bJ hu;have S:=bJ J;have HO:=bJ (wR 202 U (.pointer (some ⟨b,0,none⟩)) yu ind fl L M);have X:=bJ (wR 202 E (.pointer (some ⟨b,0,none⟩)) A ind fl L M);unfold nI at *;clear h hn hu J c0 c1 D;cases fl
 ·go_enter func98,ntmps98
  go_wp2_with fail
  go_region_with (first | (go_at_call 130;refine (HO.out _).mono ?_;rintro e Y ⟨rfl,Z⟩) | (go_at_call 94;refine (jS _ wm Y _ _ _ _ _ _ _ _ _ _ _ (HP.out.K (aA (N.out _) Z)) ⟨.iface U yu,x,n,ind,false,L,M⟩ ⟨_,_,rfl⟩ hl).mono ?_;rintro e w3 ⟨rfl,⟨wv',H,_⟩,_,_⟩))
  all_goals
   go_wp2
   go_returns
   exact ⟨rfl,.iface U yu,HU.out,wv',H⟩
 ·go_enter func98,ntmps98
  go_wp2_with fail
  go_region_with (first | (go_at_call 130;refine (X.out _).mono ?_;rintro e Y ⟨rfl,Z⟩) | (go_at_call 94;refine (jS _ wm Y _ _ _ _ _ _ _ _ _ _ _ (HP.out.K (aA (N.out _) Z)) ⟨.iface E A,y,n+bY x,ind,true,L,M⟩ ⟨_,_,rfl⟩ hl).mono ?_;rintro e w3 ⟨rfl,⟨wv',H,_⟩,_,_⟩))
  all_goals
   go_wp2
   go_returns
   exact ⟨rfl,.iface E A,S.out,wv',H⟩
end Go.Proofs.YtgifkcpdihphlaaGreatDoor
