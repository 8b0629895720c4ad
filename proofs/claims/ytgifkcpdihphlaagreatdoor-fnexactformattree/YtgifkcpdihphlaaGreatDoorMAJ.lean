import Derived.RangeFuncNested
import Derived.RangeFuncBound
import Derived.RangeFuncCalls
import Derived.RangeFuncLeaves
import Derived.RangeFuncBox
import Derived.Shelf.Abstract
import Derived.Shelf.RegionOpen
import Derived.OwnWalkIn
import Derived.TacticsInMore
import Derived.LoopNIn
import Derived.LoopIn
import Derived.Maps.AppendAt
import Derived.Shelf.Bytes.SlIndexSmall
import Derived.Shelf.Bytes.SlIndexWhole
import Derived.Lib.SlBytesConst
import Derived.Test.YtgifkcpdihphlaaGreatDoorMAI
set_option maxHeartbeats 16000000
set_option maxRecDepth 100000
namespace Go.Proofs.YtgifkcpdihphlaaGreatDoor
open Tryz
open Go.RowKit Go.Shelf
attribute [local go_sem] Oper.semAt_some
def KpB (n₀ Bx:Nat) (W W':World):Prop:=Below n₀ W W'/\W'.heap[Bx]?=W.heap[Bx]?
theorem aLy {n₀ Bx:Nat} {A B C:World} (h:KpB n₀ Bx A B) (k:KpB n₀ Bx B C):KpB n₀ Bx A C:=⟨h.1.trans k.1,k.2.trans h.2⟩
theorem aLA {n₀ Bx:Nat} {w:World} (u:n₀<=w.heap.size) (E:Bx<w.heap.size) (W:World) (l:Nat) (o j:Obj) (y:w.heap.size<=l) (h:W.heap[l]?=some o) (A:o.isCells=false) (D:o.isWalk=false):KpB n₀ Bx W (W.putObj l j):=
 ⟨belowK_b u W l o j y h A D,World.putObj_heap_other (by omega)⟩
theorem aCA (n:Nat) (hn:1<=n) (l Bx n₀:Nat) (v:Value) (zs:List Int) (d0:Bys zs) (hm:zs.length<=4194304) (N:Sl v zs.length) (J Jx:List (Int × Int)->World->Prop) (W:World)
  (hJ:AbidesFrom W.heap.size J)
  (hY:∀ u x W,J u W->u.length<zs.length->YieldAt Fence.wide (n - 1) prog l #[.int .i64 x.1,.int .i32 x.2] W fun e Z=>
   (e=.returned (.bool true)/\J (u++[x]) Z/\KpB n₀ Bx W Z)\/(e=.returned (.bool false)/\Jx (u++[x]) Z))
  (c4:Boxed W Bx 27 v) (hn₀:n₀<=W.heap.size) (hv:RdB n₀ W v zs) (hT:Tab W) (hp:0<n₀) (h0:J [] W) :
  CallsIn Fence.wide n prog 156 #[.func (.yield l) #[] #[],.pointer (some ⟨Bx,0,none⟩)] W fun e Z=>(∃ v,e=.returned v)/\
   ((∃ ys,ys=kL zs/\J ys Z)\/(∃ u,u <+: kL zs/\Jx u Z)):=by
 obtain ⟨a,cap,rfl,d9,c7⟩:=N;unfold maxLen at c7;have d7:∀ (x:Bool) (w:World),(Op.unary .not (.bool x)).run prog w=.ok (.bool (!x)) w:=fun _ _=>rfl;refine callsIn_of_wp func156 rfl trivial ?_ rfl;simp only [ntmps156,List.size_toArray,List.length_cons,List.length_nil,Nat.reduceAdd,Nat.reduceSub,Array.replicate_succ,Array.replicate_zero,List.push_toArray,List.append_toArray,List.nil_append,List.cons_append]
 gi_wp2
 gi_loopw [3] (fun i wr=>∃ (k:Nat) (u:List (Int × Int)),i=.int .i64 k/\tT zs u k/\J u wr/\Boxed wr Bx 27 (.slice a zs.length cap)/\n₀<=wr.heap.size/\RdB n₀ wr (.slice a zs.length cap) zs/\Tab wr)
  (fun i _=>zs.length - (intOf i).toNat)
 case atStart=>exact ⟨0,[],rfl,tT.start zs,h0,c4,hn₀,hv,hT⟩
 case round=>
  obtain ⟨k,u,rfl,A,H,S,L,c6,y⟩:=hrel;have hc:=S.cell;have f6:=A.1;have HM:Hid (tT zs u k):=A;clear A
  by_cases D:k<zs.length
  ·obtain ⟨a',d5,U,a6⟩:=c6;obtain ⟨b,off,a7,c8,O⟩:=a6 (fun h=>by simp [h] at D);have c9:a=some ⟨b,off,none⟩:=(by simp at U;rw [U.1];exact a7);subst c9;obtain ⟨s,N⟩:∃ s,s=zs.drop k:=⟨_,rfl⟩;have c3:s.length=zs.length - k:=by rw [N,List.length_drop]
   have b4:RdB wr.heap.size wr (.slice (some ⟨b,off+k,none⟩) (zs.length - k) (cap - k)) s:=by
    refine ⟨some ⟨b,off+k,none⟩,cap - k,by rw [c3],fun _=>⟨b,off+k,rfl,by omega,fun j hj=>?_⟩⟩;rw [Nat.add_assoc,O (k+j) (by omega),N,pM]
   have b3:Bys s:=fun z hz=>d0 z (by rw [N] at hz;exact List.mem_of_mem_drop hz);have HR:Hid (RdB n₀ wr (.slice (some ⟨b,off,none⟩) zs.length cap) zs):=⟨_,cap,rfl,fun _=>⟨b,off,rfl,c8,O⟩⟩;have HS:Hid (s=zs.drop k):=N;have f4:¬ cap=k:=(by omega);have b7:=qX _ s wr y b4 b3 (by omega) (by omega);have b0:=b7;clear U a6 a7 O N b4 b3 b7
   gi_wp2_with fail
   refine ⟨trivial,(callsIn_wide.2 b0).mono ?_⟩;rintro e W1 ⟨rfl,M⟩;have g1:=aC M;have a9:=hJ u wr W1 none H g1 (fun r e=>by cases e);have b2:=S.kept g1 (by simp);have c5:Hid (RdB n₀ W1 (.slice (some ⟨b,off,none⟩) zs.length cap) zs):=HR.out.below (M.mono L);have c1:Hid (Tab W1):=y.K g1;have a4:n₀<=W1.heap.size:=Nat.le_trans L g1.size;have f5:=HM.out.2.1;have b8:=hY u ((k:Int),fpP s) W1 a9 (by omega);have HJ:=hJ;have HY:=hY;clear H S y b0 hc M g1 a9 HR L
   by_cases Y:aM s=0
   ·have G:Hid (u++[((k:Int),fpP s)]=kL zs):=by
     have h:=HM.out.bad D (by rw [<- HS.out];exact Y);rw [<- HS.out] at h;exact h
    have X:(fpP s == -1)=true:=(by rw [eS Y];rfl);obtain ⟨fn,tmps,E,b1,hy,hR⟩:=b8;dsimp only at hy;clear Y;generalize fpP s=p at hy G X hR
    gi_wp2
    refine hR.mono ?_;rintro e W3 (⟨rfl,hJ3,hk3⟩ | ⟨rfl,hJx3⟩)
    ·gi_wp2
     refine bodyPost_ret (results_none rfl _ _ _) rfl ?_;exact ⟨⟨_,rfl⟩,.inl ⟨_,G.out,hJ3⟩⟩
    ·gi_wp2
     refine bodyPost_ret (results_none rfl _ _ _) rfl ?_;exact ⟨⟨_,rfl⟩,.inr ⟨_,by rw [G.out];exact List.prefix_refl _,hJx3⟩⟩
   ·have G:Hid (tT zs (u++[((k:Int),fpP s)]) (k+aM s)):=by
     have h:=HM.out.step D (by rw [<- HS.out];exact Y);rw [<- HS.out] at h;exact h
    have X:(fpP s == -1)=false:=(by have:=aMa Y;simp;omega);have c2:=G.out.1;obtain ⟨fn,tmps,E,b1,hy,hR⟩:=b8;dsimp only at hy;generalize fpP s=p at hy G X hR;generalize aM s=m at G c2 Y
    gi_wp2
    refine hR.mono ?_;rintro e W3 (⟨rfl,hJ3,hk3⟩ | ⟨rfl,hJx3⟩)
    ·gi_wp2
     go_roundw
     case rel=>exact ⟨k+m,_,by go_num,G.out,hJ3,hk3.2.trans b2,Nat.le_trans a4 hk3.1.size,c5.out.below hk3.1,c1.out.below hk3.1 hp⟩
     case measure=>simp [intOf];omega
    ·gi_wp2
     refine bodyPost_ret (results_none rfl _ _ _) rfl ?_;exact ⟨⟨_,rfl⟩,.inr ⟨_,G.out.prefix,hJx3⟩⟩
  ·gi_wp2
   go_end0
   exact ⟨⟨_,rfl⟩,.inl ⟨u,HM.out.done D,H⟩⟩
theorem xS (n:Nat) (a:Option Addr) (h cap:Nat) (w:World) :
  CallsIn Fence.wide n prog 139 #[.slice a h cap] w fun e w'=>e=.returned (.func (.func 156) #[] #[.pointer (some ⟨w.heap.size,0,none⟩)])/\w.alloc (.cells #[.slice a h cap] 27)=w':=by
 refine callsIn_of_wp func139 rfl trivial ?_ rfl;simp only [ntmps139,List.size_toArray,List.length_cons,List.length_nil,Nat.reduceAdd,Nat.reduceSub,Array.replicate_succ,Array.replicate_zero,List.push_toArray,List.append_toArray,List.nil_append,List.cons_append]
 gi_wp2
 go_ret;exact ⟨rfl,rfl⟩
theorem rQ (n:Nat) (D:1<=n) (Bx n₀:Nat) (v:Value) (zs:List Int) (w:World) (y:Bys zs) (E:zs.length<=4194304) (N:Sl v zs.length) (u:Boxed w Bx 27 v) (hn₀:n₀<=w.heap.size)
  (hv:RdB n₀ w v zs) (A:Tab w) (G:0<n₀) :
  SeqStopsK Fence.wide n prog 156 #[.pointer (some ⟨Bx,0,none⟩)] (fun x:Int × Int=>#[Value.int .i64 x.1,Value.int .i32 x.2]) (KpB n₀ Bx) (fun ys=>ys=kL zs) (fun j=>j <+: kL zs) zs.length w:=fun l J L W h H _ M O=>
 aCA n D l Bx n₀ v zs y E N J L W H M (u.kept (aC h) (by simp)) (Nat.le_trans hn₀ h.size) (hv.below (h.mono hn₀)) (A.below h A.pos) G O
end Go.Proofs.YtgifkcpdihphlaaGreatDoor
namespace Go.Proofs.YtgifkcpdihphlaaGreatDoor
open Tryz
open Go.RowKit
structure Ck (w:World) (h:Nat) (v:Value) (c r:Int):Prop where
 n:w.cell? ⟨h,0,none⟩=some v
 c:w.cell? ⟨h,1,none⟩=some (.int .i64 c)
 r:w.cell? ⟨h,2,none⟩=some (.int .i64 r)
 fn:w.frozen? ⟨h,0,none⟩=false
 fc:w.frozen? ⟨h,1,none⟩=false
 fr:w.frozen? ⟨h,2,none⟩=false
theorem gT {W j:World} {a:Addr} {v:Value} (u:W.grownBy j none) (h:W.cell? a=some v) (y:W.frozen? a=false):j.cell? a=some v/\j.frozen? a=false:=
 ⟨u.cell h (by simp),(World.frozen?_of_block (u.block a.block (World.block_lt_of_cell? W a h) (by simp))).trans y⟩
theorem kN (w:World) (a:Addr) (u:Value):w.grownBy (w.setCell a u) (some a.block):=
 ⟨rfl,rfl,rfl,by simp,fun i _ h=>Below.heap_setCell _ _ _ _ (fun e=>h (by rw [e]))⟩
theorem eJ {a b:World} (h:a.grownBy b none) (r:Option Nat):a.grownBy b r:=⟨h.os,h.tape,h.output,h.size,fun k j _=>h.block k j (by simp)⟩
theorem aS {a b c:World} {r:Option Nat} (h:a.grownBy b r) (k:b.grownBy c r):a.grownBy c r:=
 ⟨k.os.trans h.os,k.tape.trans h.tape,k.output.trans h.output,Nat.le_trans h.size k.size,fun i j u=>(k.block i (Nat.lt_of_lt_of_le j h.size) u).trans (h.block i j u)⟩
theorem Ck.lt {w:World} {h:Nat} {v:Value} {c r:Int} (k:Ck w h v c r):h<w.heap.size:=World.block_lt_of_cell? w _ k.n
theorem Ck.K {w w':World} {h:Nat} {v:Value} {c r:Int} (k:Ck w h v c r) (g:w.grownBy w' none):Ck w' h v c r:=
 ⟨(gT g k.n k.fn).1,(gT g k.c k.fc).1,(gT g k.r k.fr).1,(gT g k.n k.fn).2,(gT g k.c k.fc).2,(gT g k.r k.fr).2⟩
theorem Ck.setR {w:World} {h:Nat} {v:Value} {c r:Int} (k:Ck w h v c r) (j:Int):Ck (w.setCell ⟨h,2,none⟩ (.int .i64 j)) h v c j:=by
 have a1:=k.n;have a2:=k.c;have a3:=k.r;have y:=k.fn;have A:=k.fc;have u:=k.fr;exact ⟨by simp [go_sem,a1],by simp [go_sem,a2],by simp [go_sem,a3],by simp [go_sem,y],by simp [go_sem,A],by simp [go_sem,u]⟩
theorem Ck.setC {w:World} {h:Nat} {v:Value} {c r:Int} (k:Ck w h v c r) (j:Int):Ck (w.setCell ⟨h,1,none⟩ (.int .i64 j)) h v j r:=by
 have a1:=k.n;have a2:=k.c;have a3:=k.r;have u:=k.fn;have A:=k.fc;have y:=k.fr;exact ⟨by simp [go_sem,a1],by simp [go_sem,a2],by simp [go_sem,a3],by simp [go_sem,u],by simp [go_sem,A],by simp [go_sem,y]⟩
theorem Ck.setN {w:World} {h:Nat} {v:Value} {c r:Int} (k:Ck w h v c r) (j:Value):Ck (w.setCell ⟨h,0,none⟩ j) h j c r:=by
 have a1:=k.n;have a2:=k.c;have a3:=k.r;have y:=k.fn;have A:=k.fc;have u:=k.fr;exact ⟨by simp [go_sem,a1],by simp [go_sem,a2],by simp [go_sem,a3],by simp [go_sem,y],by simp [go_sem,A],by simp [go_sem,u]⟩
abbrev zW (w:World) (h:Nat) (v:Value) (c r:Int) (w':World):Prop:=Ck w' h v c r/\w.grownBy w' (some h)
theorem pI (h:Nat) (v:Value) (a:Option Addr) (n cap:Nat) (c r:Int) (w:World) (j:Ck w h v c r) (y:n<=1048576) (A : -1048576000<=r/\r<=1048576) :
  Calls prog 113 #[.pointer (some ⟨h,0,none⟩),.slice a n cap] w fun e w'=>e=.returned (.bool (decide ((n:Int)<=r)))/\zW w h v c (r - n) w':=by
 have a3:=j.r;have D:=j.fr;have u:Hid (zW w h v c (r - n) (w.setCell ⟨h,2,none⟩ (.int .i64 (r - n)))):=⟨j.setR _,kN w ⟨h,2,none⟩ _⟩;clear j
 go_enter func113,ntmps113
 go_wp2;go_ret;exact ⟨rfl,u.out⟩
theorem wS {α:Type} (f:α->Bool) (j:List α) (k:Nat) (y:k<j.length) (h:(j.take k).all f=true) (u:f j[k]=true):(j.take (k+1)).all f=true:=by
 rw [List.take_add_one,List.getElem?_eq_getElem y,List.all_append,h];simp [u]
theorem aAS {α:Type} (f:α->Bool) (h:List α) (k:Nat) (u:k<h.length) (j:f h[k]=false):h.all f=false:=by
 rw [List.all_eq_false];exact ⟨h[k],List.getElem_mem u,by rw [j];simp⟩
theorem tC (h:Nat) (v uv:Value) (zs:List Int) (c r:Int) (w:World) (H:Ck w h v c r) (B:Nat) (hv:RdI B w uv zs) (hB:B<=h) (hn:zs.length<=1048576) (hr:0<=r/\r<=1048576) :
  Calls prog 137 #[.pointer (some ⟨h,0,none⟩),uv] w fun e w'=>e=.returned (.bool (decide ((zs.length:Int)<=r)&&zs.all bZ))/\zW w h v c (r - zs.length) w':=by
 obtain ⟨a,cap,Z,y⟩:=id hv;have a3:=H.r;have b3:=H.fr;have N:Hid (zW w h v c (r - zs.length) (w.setCell ⟨h,2,none⟩ (.int .i64 (r - zs.length)))):=⟨H.setR _,kN w ⟨h,2,none⟩ _⟩;have HV:Hid (RdI B (w.setCell ⟨h,2,none⟩ (.int .i64 (r - zs.length))) uv zs):=hv.beside (kN w ⟨h,2,none⟩ _) (fun k e=>by cases e;exact hB);subst Z;clear H hv y
 by_cases hc:(zs.length:Int)<=r
 ·have a5:¬ r - (zs.length:Int)<0:=(by omega);rw [decide_eq_true hc,Bool.true_and]
  go_enter func137,ntmps137
  go_wp2;obtain ⟨S,A⟩:∃ S,S=w.setCell ⟨h,2,none⟩ (.int .i64 (r - zs.length)):=⟨_,rfl⟩;rw [<- A] at N HV ⊢;have HW:=aB A;clear A a3 b3
  go_loopw [23] (fun i wr=>∃ k:Nat,k<=zs.length/\i=.int .i64 k/\Hid ((zs.take k).all bZ=true)/\S.grownBy wr none) (fun i _=>zs.length - (intOf i).toNat)
  case atStart=>exact ⟨0,Nat.zero_le _,rfl,by simp [Hid],World.grownBy.refl _ _⟩
  case round=>
   obtain ⟨k,H,rfl,HA,u⟩:=hrel;have L:Hid (zW w h v c (r - zs.length) wr):=⟨N.out.1.K u,aS N.out.2 (eJ u _)⟩;have HG:=aB u
   by_cases j:k<zs.length
   ·obtain ⟨a',a7,E,y⟩:=HV.out.K u;obtain ⟨b,off,O,b7,J⟩:=y (fun e=>by rw [e] at j;simp at j);have X:a=some ⟨b,off,none⟩:=(by simp only [Value.slice.injEq] at E;rw [E.1];exact O);subst X;have U:=J k j;have b2:(k:Int)<zs.length:=(by omega);have D:zs[k]?.getD 0=zs[k]:=(by simp [j]);rw [D] at U;have M:=aB (fun w=>eZ zs[k] w);clear u E y J;cases G:bZ zs[k] with
    | true=>
      have HN:=aB (wS bZ zs k j HA.out G);rw [G] at M;clear G D;generalize zs[k]=p at *
      go_wp2_with fail
      refine (M.out _).mono ?_;rintro e w2 ⟨rfl,rfl⟩;go_wp2
      go_roundw
      case rel=>exact ⟨k+1,by omega,by go_num,HN,HG.out⟩
      case measure=>simp [intOf];omega
    | false=>
      have Y:=aB (aAS bZ zs k j G);rw [G] at M;clear G D;generalize zs[k]=p at *
      go_wp2_with fail
      refine (M.out _).mono ?_;rintro e w2 ⟨rfl,rfl⟩;go_wp2;go_ret;exact ⟨by rw [Y.out];rfl,L.out⟩
   ·have Y:Hid (zs.all bZ=true):=by
     have:=HA.out;rw [show k=zs.length by omega,List.take_length] at this;exact this
    clear u;go_wp2;go_ret;exact ⟨by rw [Y.out];rfl,L.out⟩
 ·have a5:r - (zs.length:Int)<0:=(by omega);rw [decide_eq_false hc,Bool.false_and]
  go_enter func137,ntmps137
  go_wp2;go_ret;exact ⟨rfl,N.out⟩
end Go.Proofs.YtgifkcpdihphlaaGreatDoor
namespace Go.Proofs.YtgifkcpdihphlaaGreatDoor
open Tryz
open Go.RowKit Go.Shelf
def aLG:Go.Shelf.Ren:=⟨fun | 186=>141 | 185=>158 | 187=>171 | 115=>172 | 253=>173 | 224=>174 | 254=>175 | 255=>189 | 291=>190 | n=>n,fun | 37=>27 | 4=>4 | 3=>3 | 0=>0 | 5=>5 | 46=>237 | 9=>9 | 146=>244 | 51=>243 | n=>n,fun | 1=>1 | n=>n⟩
theorem aGK:Go.Proofs.Lays.n186 prog aLG:={
 mixed:=by kernel_rfl
 f115:=func172.trans (congrArg some (by kernel_rfl))
 f185:=func158.trans (congrArg some (by kernel_rfl))
 f186:=func141.trans (congrArg some (by kernel_rfl))
 f187:=func171.trans (congrArg some (by kernel_rfl))
 f224:=func174.trans (congrArg some (by kernel_rfl))
 f253:=func173.trans (congrArg some (by kernel_rfl))
 f254:=func175.trans (congrArg some (by kernel_rfl))
 f255:=func189.trans (congrArg some (by kernel_rfl))
 f291:=func190.trans (congrArg some (by kernel_rfl))
 t0:=underlying0
 a0:=Tryz.isAgg0
 z0:=Tryz.sizeOf0
 v0:=Tryz.zeroValue0
 t3:=underlying3
 a3:=Tryz.isAgg3
 z3:=Tryz.sizeOf3
 v3:=Tryz.zeroValue3
 t4:=underlying4
 a4:=Tryz.isAgg4
 z4:=Tryz.sizeOf4
 v4:=Tryz.zeroValue4
 t5:=underlying5
 a5:=Tryz.isAgg5
 z5:=Tryz.sizeOf5
 v5:=Tryz.zeroValue5
 t9:=underlying9
 a9:=Tryz.isAgg9
 z9:=Tryz.sizeOf9
 v9:=Tryz.zeroValue9
 t37:=underlying27
 a37:=Tryz.isAgg27
 z37:=Tryz.sizeOf27
 v37:=Tryz.zeroValue27
 t46:=underlying237
 a46:=Tryz.isAgg237
 z46:=Tryz.sizeOf237
 v46:=Tryz.zeroValue237
 t51:=underlying243
 a51:=Tryz.isAgg243
 z51:=Tryz.sizeOf243
 v51:=Tryz.zeroValue243
 t146:=underlying244
 a146:=Tryz.isAgg244
 z146:=Tryz.sizeOf244
 v146:=Tryz.zeroValue244
 g1:=by kernel_rfl }
def jT:List Int->Bool
 | a::b::l=>(decide (a=42)&&decide (b=47))||jT (b::l)
 | _=>false
theorem aLz {z:Int} (j:0<=z/\z<=255) (k:Nat) (u:k<=255):(UInt8.ofNat k==z.toNat.toUInt8)=decide (z=k):=by
 rw [Bool.eq_iff_iff];simp only [beq_iff_eq,decide_eq_true_eq];constructor
 ·intro h;have:=congrArg UInt8.toNat h;simp only [UInt8.toNat_ofNat',Nat.toUInt8] at this;omega
 ·intro h;subst h;rfl
theorem aD2:∀ (zs:List Int),Bys zs->(0<=Lib.index (Lib.bytesOf zs) [42,47] ↔ jT zs=true)
 | [],_=>by decide
 | [z],_=>by
   have:Lib.index (Lib.bytesOf [z]) [42,47] = -1:=by
    simp [Lib.bytesOf,Lib.index,List.isPrefixOf]
   rw [this];simp [jT]
 | a::b::l,h=>by
   have ih:=aD2 (b::l) (fun z G=>h z (by simp [G]));have A:=aLz (h a (by simp)) 42 (by omega);have D:=aLz (h b (by simp)) 47 (by omega);have y:=Lib.index_ge (Lib.bytesOf (b::l)) [42,47];have E:Lib.bytesOf (a::b::l)=a.toNat.toUInt8::Lib.bytesOf (b::l):=rfl
   have H:([42,47]:List UInt8).isPrefixOf (a.toNat.toUInt8::Lib.bytesOf (b::l))=(decide (a=42)&&decide (b=47)):=by
    show ((UInt8.ofNat 42==a.toNat.toUInt8)&&((UInt8.ofNat 47==b.toNat.toUInt8)&&true))=_
    rw [A,D,Bool.and_true];rfl
   rw [E];unfold Lib.index jT;rw [H];cases J:(decide (a=42)&&decide (b=47)) with
   | true=>simp
   | false=>
     rw [Bool.false_or,<- ih]
     by_cases u:Lib.index (Lib.bytesOf (b::l)) [42,47] = -1
     ·simp [u]
     ·have j:(Lib.index (Lib.bytesOf (b::l)) [42,47] == -1)=false:=(by simpa using u);simp only [Bool.false_eq_true,if_false,j];omega
theorem aDD (zs:List Int) (h:Bys zs):Lib.contains (Lib.bytesOf zs) (Lib.bytesOf [42,47])=jT zs:=by
 have:=aD2 zs h;unfold Lib.contains
 show decide (0<=Lib.index (Lib.bytesOf zs) [42,47])=_
 rw [Bool.eq_iff_iff,decide_eq_true_eq];exact this
theorem aDx (v:Value) (zs:List Int) (j:Nat) (m:Int) (w:World) (hv:RdB w.heap.size w v zs) (S:Sl v zs.length) (D:Bys zs) (Z:zs.length<=1048576)
  (U:w.cell? ⟨j,0,none⟩=some (.int .u8 42)) (Y:w.cell? ⟨j,1,none⟩=some (.int .u8 47)) (N:w.cell? ⟨1,0,none⟩=some (.int .i64 m)) (J:Nat) :
  Calls prog 141 #[v,.slice (some ⟨j,0,none⟩) 2 J] w fun e w'=>e=.returned (.bool (jT zs))/\∃ q,w'=w.drewN q:=by
 obtain ⟨a,cap,rfl,G⟩:=id hv;obtain ⟨a',L,e,u,M⟩:=S;simp only [Value.slice.injEq] at e;obtain ⟨rfl,_,rfl⟩:=e
 by_cases E:zs.length<2
 ·refine (Any.bytes_Contains_longer aGK a (some ⟨j,0,none⟩) zs.length cap 2 J w (by omega) E (by omega)).mono ?_;rintro e w' ⟨rfl,rfl⟩;refine ⟨?_,0,rfl⟩
  have:jT zs=false:=by
   match zs,E with
   | [],_=>rfl
   | [z],_=>rfl
  rw [this]
 ·obtain ⟨b,off,rfl,hb,X⟩:=G (fun e=>by rw [e] at E;simp at E);rw [<- aDD zs D];refine (Any.bytes_Contains_at aGK ⟨b,off,none⟩ ⟨j,0,none⟩ zs.length cap 2 J zs [42,47] m w rfl rfl (fun x O=>by have:=D x O;omega) (fun y A=>?_) (fun i H=>?_) (fun i H=>?_) u (by omega) (by omega) N).mono fun e w' h=>h
  ·simp at A;rcases A with rfl | rfl<;>omega
  ·rw [Addr.add_lit,X i H];simp [List.getD]
  ·rw [Addr.add_lit]
   match i,H with
   | 0,_=>simpa using U
   | 1,_=>simpa using Y
end Go.Proofs.YtgifkcpdihphlaaGreatDoor
namespace Go.Proofs.YtgifkcpdihphlaaGreatDoor
open Tryz
open Go.RowKit Go.Shelf
attribute [local go_sem] Oper.semAt_some
theorem aCk (p:Int) (w:World):Calls prog 140 #[.int .i32 p] w fun e w'=>e=.returned (.bool (!lnE p))/\w=w':=by
 by_cases j:p=10
 ·subst j
  go_enter func140,ntmps140
  go_wp2;go_ret;exact ⟨rfl,rfl⟩
 ·have G:(p != 10)=true:=by simpa using j
  by_cases y:p=13
  ·subst y
   go_enter func140,ntmps140
   go_wp2;go_ret;exact ⟨rfl,rfl⟩
  ·have D:(p != 13)=true:=by simpa using y
   by_cases u:p=8232
   ·subst u
    go_enter func140,ntmps140
    go_wp2;go_ret;exact ⟨rfl,rfl⟩
   ·have H:(p != 8232)=true:=by simpa using u
    by_cases h:p=8233
    ·subst h
     go_enter func140,ntmps140
     go_wp2;go_ret;exact ⟨rfl,rfl⟩
    ·have A:Hid (lnE p=false):=(by unfold Hid lnE;simp [j,y,u,h]);have E:(p != 8233)=true:=by simpa using h
     go_enter func140,ntmps140
     go_wp2;go_ret;exact ⟨by rw [A.out];first | rfl | simp [h],rfl⟩
def okP (b:Bool) (p:Int):Bool:=!decide (p = -1)&&(!lnE p||(b&&decide (p=10)))
def bG (c:Cm):Bool:=(kL c.t).all (fun x=>okP c.b x.2)&&(!c.b || !jT c.t)
theorem aDt (n:Nat) (hn:3<=n) (v:Value) (c:Cm) (m:Int) (w:World) (hv:RdB w.heap.size w v c.t) (c4:Bys c.t) (hm:c.t.length<=1048576) (N:Sl v c.t.length) (hT:Tab w) (hM:w.cell? ⟨1,0,none⟩=some (.int .i64 m)) :
  CallsIn Fence.wide n prog 114 #[.agg #[.bool c.b,v]] w fun e w'=>e=.returned (.bool (bG c))/\Below w.heap.size w w':=by
 have h1:1<=n:=(by omega);have c7:=N;obtain ⟨a,cap,rfl,g6,h2⟩:=c7;have a8:=hT.pos;refine callsIn_of_wp_marks func114 rfl trivial ?_ rfl;simp only [ntmps114,List.size_toArray,List.length_cons,List.length_nil,Nat.reduceAdd,Nat.reduceSub,Array.replicate_succ,Array.replicate_zero,List.push_toArray,List.append_toArray,List.nil_append,List.cons_append]
 gi_wp2_with fail
 refine ⟨trivial,(xS (n - 1) _ _ _ _).mono ?_⟩;rintro e w' ⟨rfl,rfl⟩
 gi_wp2_with fail
 obtain ⟨W0,E⟩:∃ W0,W0=((w.alloc (.cells #[.bool c.b,.slice a c.t.length cap] 81)).alloc (.cells #[.bool false] 4)).alloc (.cells #[.slice a c.t.length cap] 27):=⟨_,rfl⟩;have b1:Below w.heap.size w W0:=(by rw [E];exact (((Below.refl _ w).alloc (Nat.le_refl _) _).alloc (by simp) _).alloc (by simp;omega) _);have d0:W0.cell? ⟨w.heap.size,0,none⟩=some (.bool c.b):=(by rw [E];simp [go_sem]);have d1:W0.cell? ⟨w.heap.size,1,none⟩=some (.slice a c.t.length cap):=(by rw [E];simp [go_sem]);have d2:W0.cell? ⟨w.heap.size+1,0,none⟩=some (.bool false):=(by rw [E];simp [go_sem]);have d3:W0.frozen? ⟨w.heap.size+1,0,none⟩=false:=by rw [E];simp [go_sem]
 have bx:Boxed W0 (w.heap.size+1+1) 27 (.slice a c.t.length cap):=by
  have:=Boxed.new ((w.alloc (.cells #[.bool c.b,.slice a c.t.length cap] 81)).alloc (.cells #[.bool false] 4)) 27 (.slice a c.t.length cap);simp only [World.size_alloc] at this;rw [E];exact this
 have f6:W0.heap.size=w.heap.size+3:=(by rw [E];simp);rw [<- E];clear E
 refine wpIn_rangeFunc_ownF rfl h1 (gf:=156) (lb:=#[.pointer (some ⟨w.heap.size+1+1,0,none⟩)]) rfl trivial (enters_of func156 (by kernel_rfl) rfl)
  (rQ (n - 1) (by omega) (w.heap.size+1+1) w.heap.size _ c.t _ c4 (by omega) N bx (by omega) (hv.below b1) (hT.below b1 a8) a8) aLy (aLA (by omega) (by omega)) (Below.refl _ _) (fun _=>rfl)
  (fun (u:List (Int × Int)) W=>((∀ x∈u,okP c.b x.2=true)/\W.cell? ⟨w.heap.size,0,none⟩=some (.bool c.b)/\W.cell? ⟨w.heap.size,1,none⟩=some (.slice a c.t.length cap)/\W.cell? ⟨w.heap.size+1,0,none⟩=some (.bool false)/\W.frozen? ⟨w.heap.size+1,0,none⟩=false)/\Below w.heap.size w W)
  (fun k (u:List (Int × Int)) W=>(k=.ret/\(∃ (q:List (Int × Int)) (x:Int × Int),u=q++[x]/\okP c.b x.2=false)/\W.cell? ⟨w.heap.size+1,0,none⟩=some (.bool false))/\Below w.heap.size w W)
  (OwnFrom.and (Own.from (fun s A B c9 N hg hr=>⟨N.1,cell_kept N.2.1 hg hr,cell_kept N.2.2.1 hg hr,cell_kept N.2.2.2.1 hg hr,(frozen_kept N.2.2.2.1 hg hr).trans N.2.2.2.2⟩) _) (ownFrom_below (Nat.le_refl _) (by omega)))
  (fun c=>OwnFrom.and (Own.from (fun s A B c9 N hg hr=>⟨N.1,N.2.1,cell_kept N.2.2 hg hr⟩) _) (ownFrom_below (Nat.le_refl _) (by omega)))
  ⟨⟨by simp,d0,d1,d2,d3⟩,b1⟩
  (fun x=>{ tmps:=#[.agg #[.bool c.b,.slice a c.t.length cap],.pointer (some ⟨w.heap.size,0,none⟩),.pointer (some ⟨w.heap.size+1,0,none⟩),undef,.int .i32 x.2,.pointer (some ⟨w.heap.size,1,none⟩),.slice a c.t.length cap,.func (.func 156) #[] #[.pointer (some ⟨w.heap.size+1+1,0,none⟩)],.int .i64 x.1,.int .i32 x.2,undef,undef,undef,undef,undef,undef,undef,undef,undef,undef,undef,undef,undef,undef,undef,undef,undef,undef,undef,undef,undef,undef,undef,undef,undef,undef,undef],defers:=[] }) ?assign ?body ?done ?stop
 case assign=>
  intro l x W K hK
  gi_wp2
  exact hK
 case body=>
  rintro l u x W ⟨⟨H,M,b3,j,a4⟩,S⟩ g8;have HL:=aB (fun w=>aCk x.2 w);have a9:=M
  have J:okP c.b x.2=true->Hid (∀ y∈u++[x],okP c.b y.2=true):=fun h y hy=>by
   rcases List.mem_append.1 hy with h' | h'
   ·exact H y h'
   ·simp at h';subst h';exact h
  by_cases Y:x.2 = -1
  ·have HX:Hid (okP c.b x.2=false):=(by unfold Hid okP;simp [Y]);have d5:(x.2 == -1)=true:=(by simp [Y]);clear J Y
   gi_wp2
   refine ⟨trivial,?_⟩
   gi_wp2
   exact ⟨KeepsOthers.setCell _ _ _,⟨rfl,⟨u,x,rfl,HX.out⟩,World.cell?_setCell_same' _ _ _ (by rw [j];rfl)⟩,S.setCell (p:=⟨w.heap.size+1,0,none⟩) (by simp) _⟩
  ·have d5:(x.2 == -1)=false:=(by simpa using Y);cases hl:lnE x.2 with
   | false=>
     rw [hl] at HL;have HY:=J (by unfold okP;rw [hl];simp [Y]);clear J Y hl
     gi_wp2_with fail
     refine ⟨trivial,fun h=>(by cases h),(CallsIn.inRound l (callsIn_wide.2 (HL.out _))).mono ?_⟩;rintro e W1 ⟨rfl,rfl⟩
     gi_wp2
     exact ⟨KeepsOthers.refl _,⟨Below.refl _ _,rfl⟩,⟨HY.out,a9,b3,j,a4⟩,S⟩
   | true=>
     rw [hl] at HL
     by_cases U:c.b=true
     ·by_cases O:x.2=10
      ·have HY:=J (by unfold okP;rw [U];simp [O]);have c2:(x.2==10)=true:=(by simp [O]);rw [U] at M;clear J Y hl U O
       gi_wp2_with fail
       refine ⟨trivial,fun h=>(by cases h),(CallsIn.inRound l (callsIn_wide.2 (HL.out _))).mono ?_⟩;rintro e W1 ⟨rfl,rfl⟩
       gi_wp2
       exact ⟨KeepsOthers.refl _,⟨Below.refl _ _,rfl⟩,⟨HY.out,a9,b3,j,a4⟩,S⟩
      ·have HX:Hid (okP c.b x.2=false):=(by unfold Hid okP;rw [hl];simp [O]);have c2:(x.2==10)=false:=(by simpa using O);rw [U] at M;clear J Y hl U O
       gi_wp2_with fail
       refine ⟨trivial,fun h=>(by cases h),(CallsIn.inRound l (callsIn_wide.2 (HL.out _))).mono ?_⟩;rintro e W1 ⟨rfl,rfl⟩
       gi_wp2
       exact ⟨KeepsOthers.setCell _ _ _,⟨rfl,⟨u,x,rfl,HX.out⟩,World.cell?_setCell_same' _ _ _ (by rw [j];rfl)⟩,S.setCell (p:=⟨w.heap.size+1,0,none⟩) (by simp) _⟩
     ·have b2:c.b=false:=(by simpa using U);have HX:Hid (okP c.b x.2=false):=(by unfold Hid okP;rw [hl,b2];simp);rw [b2] at M;clear J Y hl U b2
      gi_wp2_with fail
      refine ⟨trivial,fun h=>(by cases h),(CallsIn.inRound l (callsIn_wide.2 (HL.out _))).mono ?_⟩;rintro e W1 ⟨rfl,rfl⟩
      gi_wp2
      exact ⟨KeepsOthers.setCell _ _ _,⟨rfl,⟨u,x,rfl,HX.out⟩,World.cell?_setCell_same' _ _ _ (by rw [j];rfl)⟩,S.setCell (p:=⟨w.heap.size+1,0,none⟩) (by simp) _⟩
 case done=>
  rintro D ys W hD rfl ⟨⟨H,M,b3,j,a4⟩,S⟩ hK;have G:(kL c.t).all (fun x=>okP c.b x.2)=true:=List.all_eq_true.2 H
  by_cases U:c.b=false
  ·have HW:Hid (bG c=true):=(by unfold Hid bG;rw [G,U];rfl);rw [U] at M;clear H G U
   gi_wp2
   refine ⟨trivial,?_⟩
   gi_wp2
   have L:=(KeepsOthers.setCell W ⟨w.heap.size+1,0,none⟩ (.bool true)).same D _ hK rfl;refine ⟨by simp,.inl ⟨_,_,rfl,run_takeDeferred L,?_⟩⟩;have X:=cell_kept (World.cell?_setCell_same' W ⟨w.heap.size+1,0,none⟩ (.bool true) (by rw [j];rfl)) (grownBy_putObj' _ D (.deferred none)) (fun r e=>by cases e;exact ⟨_,L,rfl⟩);refine ⟨.bool true,?_,by rw [HW.out],(S.setCell (p:=⟨w.heap.size+1,0,none⟩) (by simp) _).trans (belowK_b (w:=w) (Nat.le_refl _) _ D _ _ (by omega) L rfl rfl)⟩;simp [results,Tryz.f114,go_sem,X]
  ·have b0:c.b=true:=(by simpa using U);have HW:Hid (bG c = !jT c.t):=(by unfold Hid bG;rw [G,b0];rfl);rw [b0] at M;clear H G U b0;have d4:=Lib.run_convert_bytes_const (P:=prog) W 27 5 #[.int .u8 42,.int .u8 47] 2 2 underlying27 underlying5;have gW:W.grownBy (W.alloc (.cells #[.int .u8 42,.int .u8 47] 5 (2,3))) none:=gWA;have c1:=S.size
   have Z:(W.alloc (.cells #[.int .u8 42,.int .u8 47] 5 (2,3))).heap[W.heap.size]?=some (.cells #[.int .u8 42,.int .u8 47] 5 (2,3)):=by
    show (W.heap.push _)[W.heap.size]?=_;simp
   have d9:=aB (aDx (.slice a c.t.length cap) c.t W.heap.size m (W.alloc (.cells #[.int .u8 42,.int .u8 47] 5 (2,3))) (((hv.below S).wideC c1).K gW |>.wideC gW.size) N c4 hm ((cell_of_row _ _ 0 #[.int .u8 42,.int .u8 47] 5 (2,3) Z).trans rfl) ((cell_of_row _ _ 1 #[.int .u8 42,.int .u8 47] 5 (2,3) Z).trans rfl)
    (gW.cell ((World.cell?_of_block (S.block 1 (World.block_lt_of_cell? w _ hM))).trans hM) (by simp)) 2)
   have d7:=(KeepsOthers.alloc W (.cells #[.int .u8 42,.int .u8 47] 5 (2,3))).same D _ hK rfl;have f3:=gW.cell j (by simp);have h0:=(gT gW j a4).2;have b8:Hid (Below w.heap.size w (W.alloc (.cells #[.int .u8 42,.int .u8 47] 5 (2,3)))):=S.alloc c1 _;clear gW Z
   gi_wp2_with fail
   refine ⟨trivial,(callsIn_wide.2 d9.out).mono ?_⟩;rintro e W2 ⟨rfl,q,rfl⟩;have d6:((W.alloc (.cells #[.int .u8 42,.int .u8 47] 5 (2,3))).drewN q).cell? ⟨w.heap.size+1,0,none⟩=some (.bool false):=f3;have f4:((W.alloc (.cells #[.int .u8 42,.int .u8 47] 5 (2,3))).drewN q).heap[D]?=some (.deferred (some [])):=d7;have c8:Hid (Below w.heap.size w ((W.alloc (.cells #[.int .u8 42,.int .u8 47] 5 (2,3))).drewN q)):=b8.out.grown (dT (World.grownBy.refl _ none) q) b8.out.size (fun k e=>by cases e);generalize jT c.t=b at *
   gi_wp2
   have L:=(KeepsOthers.setCell ((W.alloc (.cells #[.int .u8 42,.int .u8 47] 5 (2,3))).drewN q) ⟨w.heap.size+1,0,none⟩ (.bool (!b))).same D _ f4 rfl;refine ⟨by simp,.inl ⟨_,_,rfl,run_takeDeferred L,?_⟩⟩;have X:=cell_kept (World.cell?_setCell_same' ((W.alloc (.cells #[.int .u8 42,.int .u8 47] 5 (2,3))).drewN q) ⟨w.heap.size+1,0,none⟩ (.bool (!b)) (by rw [d6];rfl)) (grownBy_putObj' _ D (.deferred none)) (fun r e=>by cases e;exact ⟨_,L,rfl⟩);refine ⟨.bool (!b),?_,by rw [HW.out],(c8.out.setCell (p:=⟨w.heap.size+1,0,none⟩) (by simp) _).trans (belowK_b (w:=w) (Nat.le_refl _) _ D _ _ (by omega) L rfl rfl)⟩;simp [results,Tryz.f114,go_sem,X]
 case stop=>
  rintro D k u W hD c0 ⟨⟨rfl,⟨q,x,hq,Y⟩,j⟩,S⟩ hK
  have HW:Hid (bG c=false):=by
   unfold Hid bG;rw [Bool.and_eq_false_iff];left;rw [List.all_eq_false];refine ⟨x,?_,by rw [Y];simp⟩;obtain ⟨t,ht⟩:=c0;rw [<- ht,hq];simp
  gi_wp2
  refine ⟨by simp,.inl ⟨_,_,rfl,run_takeDeferred hK,?_⟩⟩;have X:=cell_kept j (grownBy_putObj' _ D (.deferred none)) (fun r e=>by cases e;exact ⟨_,hK,rfl⟩);refine ⟨.bool false,?_,by rw [HW.out],S.trans (belowK_b (w:=w) (Nat.le_refl _) W D _ _ (by omega) hK rfl rfl)⟩;simp [results,Tryz.f114,go_sem,X]
theorem aBv (v:Value) (c:Cm) (m:Int) (w:World) (hv:RdB w.heap.size w v c.t) (j:Bys c.t) (u:c.t.length<=1048576) (D:Sl v c.t.length) (y:Tab w) (A:w.cell? ⟨1,0,none⟩=some (.int .i64 m)) :
  Calls prog 114 #[.agg #[.bool c.b,v]] w fun e w'=>e=.returned (.bool (bG c))/\w.grownBy w' none:=
 (callsIn_wide.1 (aDt 3 (Nat.le_refl _) v c m w hv j u D y A)).mono fun _ _ h=>⟨h.1,aC h.2⟩
end Go.Proofs.YtgifkcpdihphlaaGreatDoor
namespace Go.Proofs.YtgifkcpdihphlaaGreatDoor
open Tryz
open Go.RowKit
theorem xQ:∀ (j:List Cm) (k:Nat) (u:k<j.length),bN (j.take (k+1))=bN (j.take k)+j[k].t.length
 | c::j,0,_=>by simp [bN]
 | c::j,k+1,h=>by
   have:=xQ j k (by simpa using h);simp only [List.take_succ_cons,bN,this,List.getElem_cons_succ];omega
theorem aC1:∀ (h:List Cm) (k:Nat),bN (h.take k)<=bN h
 | [],k=>by simp
 | c::h,0=>by have:=bB (c::h);simpa [bN] using this
 | c::h,k+1=>by have:=aC1 h k;simp only [List.take_succ_cons,bN];omega
theorem tW (v:Value) (h:List Cm) (w:World) (hv:RdC w.heap.size w v h) (O:h.length<=1048576) (Y:bN h<=1048576) :
  Calls prog 60 #[v] w fun e w'=>e=.returned (.tuple #[.int .i64 (bN h),.int .i64 h.length])/\w.grownBy w' none:=by
 obtain ⟨a,cap,E,_⟩:=id hv;have N:=aB hv;subst E;clear hv
 go_enter func60,ntmps60
 go_wp2
 go_loopw [4,5] (fun n i wr=>∃ k:Nat,k<=h.length/\i=.int .i64 k/\n=.int .i64 (bN (h.take k))/\w.grownBy wr none) (fun _ i _=>h.length - (intOf i).toNat)
 case atStart=>exact ⟨0,Nat.zero_le _,rfl,by simp [bN],World.grownBy.refl _ _⟩
 case round=>
  obtain ⟨k,U,rfl,rfl,j⟩:=hrel
  by_cases u:k<h.length
  ·obtain ⟨b,off,H,tv,D,hb,y⟩:=(N.out.K j).at k u;cases D;have S:=y.k;have Z:=y.t;obtain ⟨X,J,A,_,_⟩:=y.sl;have G:=aB (xQ h k u);have M:=aC1 h (k+1);rw [G.out] at M;have h2:=bB (h.take k);subst A;clear y;generalize h[k]=p at *;generalize bN (h.take k)=T at *;go_wp2
   go_roundw
   case rel=>exact ⟨k+1,by omega,by go_num,by rw [G.out],j⟩
   case measure=>simp [intOf];omega
  ·have L:h.take k=h:=(by rw [show k=h.length by omega,List.take_length]);rw [L];go_wp2;go_ret2;exact ⟨rfl,j⟩
theorem aCf:∀ (j:List Nod) (k:Nat) (u:k<j.length),eO (j.take (k+1))=eO (j.take k)+nr j[k]
 | n::j,0,_=>by simp [eO]
 | n::j,k+1,h=>by
   have:=aCf j k (by simpa using h);simp only [List.take_succ_cons,eO,this,List.getElem_cons_succ];omega
theorem aGc:∀ (h:List Nod) (k:Nat),eO (h.take k)<=eO h
 | [],k=>by simp
 | n::h,0=>by have:=eR (n::h);simpa [eO] using this
 | n::h,k+1=>by have:=aGc h k;simp only [List.take_succ_cons,eO];omega
theorem aCa:∀ (j:List Nod) (k:Nat) (u:k<j.length),fC (j.take (k+1))=fC (j.take k)+nc j[k]
 | n::j,0,_=>by simp [fC]
 | n::j,k+1,h=>by
   have:=aCa j k (by simpa using h);simp only [List.take_succ_cons,fC,this,List.getElem_cons_succ];omega
theorem aGh:∀ (h:List Nod) (k:Nat),fC (h.take k)<=fC h
 | [],k=>by simp
 | n::h,0=>by have:=eV (n::h);simpa [fC] using this
 | n::h,k+1=>by have:=aGh h k;simp only [List.take_succ_cons,fC];omega
theorem aEg (nv tv:Value) (t:Tre) (w:World) (hv:dG w.heap.size w nv tv t) (hR:eO t.N+bN t.tail<=1048576) (hK:fC t.N+t.tail.length<=1048576) (hn:t.N.length<=1048576) :
  Calls prog 31 #[.agg #[nv,tv]] w fun e w'=>e=.returned (.bool (decide (eO t.N+bN t.tail<=100000)&&decide (fC t.N+t.tail.length<=4000)))/\w.grownBy w' none:=by
 obtain ⟨H,E⟩:=hv;obtain ⟨na,D,b7,_⟩:=id H;obtain ⟨ta,a5,b2,_⟩:=id E;have n1:=eR t.N;have n2:=eV t.N;have n3:=bB t.tail;have b1:Hid (∀ w',w.grownBy w' none->Calls prog 60 #[tv] w' fun e j=>e=.returned (.tuple #[.int .i64 (bN t.tail),.int .i64 t.tail.length])/\w'.grownBy j none):=fun w' g=>tW tv t.tail w' ((E.K g).wide g.size) (by omega) (by omega);have HV:=aB H;subst b7 b2;clear H E
 go_enter func31,ntmps31
 go_wp2_with fail
 refine (b1.out _ gWA).mono ?_;rintro e w1 ⟨rfl,g1⟩;have c0:w1.cell? ⟨w.heap.size,0,none⟩=some (.slice na t.N.length D):=g1.cell (by simp [go_sem]) (by simp);have G1:=aB (aA (World.grownBy_alloc w (Obj.cells #[.slice na t.N.length D,.slice ta t.tail.length a5] 33) none) g1);clear g1;go_wp2
 go_loopw [3,4,5] (fun tt cc i wr=>∃ k:Nat,k<=t.N.length/\i=.int .i64 k/\tt=.int .i64 (bN t.tail+eO (t.N.take k))/\cc=.int .i64 (t.tail.length+fC (t.N.take k))/\w1.grownBy wr none) (fun _ _ i _=>t.N.length - (intOf i).toNat)
 case atStart=>exact ⟨0,Nat.zero_le _,rfl,by simp [eO],by simp [fC],World.grownBy.refl _ _⟩
 case round=>
  obtain ⟨k,hk,rfl,rfl,rfl,u⟩:=hrel;have c1:=u.cell c0 (by simp);have y:=aA G1.out u
  by_cases J:k<t.N.length
  ·obtain ⟨b,off,c6,lv,kv,xv,uv,a6,b0,hb,h⟩:=(HV.out.K y).at k J;cases b0;have z0:=h.k;have z1:=h.L;have z2:=h.mem;have z3:=h.key;have z4:=h.X;have z5:=h.U;have z6:=h.C;have z7:=h.tail;have s1:=bB t.N[k].L;have s2:=bB t.N[k].tail;have HS:=aB (aCf t.N k J);have HQ:=aB (aCa t.N k J);have h1:=aGc t.N (k+1);have h2:=eR (t.N.take k);have h3:=aGh t.N (k+1);have h4:=eV (t.N.take k);rw [HS.out] at h1;rw [HQ.out] at h3;unfold nr at h1;unfold nc at h3;have G:=y.size;have L1:Hid (∀ w',wr.grownBy w' none->Calls prog 60 #[lv] w' fun e j=>e=.returned (.tuple #[.int .i64 (bN t.N[k].L),.int .i64 t.N[k].L.length])/\w'.grownBy j none):=fun w' g=>tW lv t.N[k].L w' ((h.rl.K g).wide (Nat.le_trans G g.size)) (by omega) (by omega);have L2:Hid (∀ w',wr.grownBy w' none->Calls prog 60 #[a6] w' fun e j=>e=.returned (.tuple #[.int .i64 (bN t.N[k].tail),.int .i64 t.N[k].tail.length])/\w'.grownBy j none):=fun w' g=>tW a6 t.N[k].tail w' ((h.rt.K g).wide (Nat.le_trans G g.size)) (by omega) (by omega);obtain ⟨la,d3,c2,_,_⟩:=h.rl.sl;obtain ⟨qa,O,c3,_,_⟩:=h.rt.sl;obtain ⟨ka,Z,a9,_,_⟩:=h.sk;obtain ⟨xa,a4,b5,_,_⟩:=h.sx;obtain ⟨ua,Y,b6,_,_⟩:=h.su;have b4:Hid (nr t.N[k]=t.N[k].key.length+t.N[k].U.length+t.N[k].X.length+(bN t.N[k].L+bN t.N[k].tail)):=rfl;have b9:Hid (nc t.N[k]=t.N[k].L.length+t.N[k].tail.length):=rfl;have HG:=aB u;subst c2 c3 a9 b5 b6;clear h u y G;generalize t.N[k]=p at *;generalize eO (t.N.take k)=T at *;generalize fC (t.N.take k)=Q at *;generalize bN p.L=A at *;generalize bN p.tail=B at *;generalize bN t.tail=C at *
   go_wp2_with fail
   refine (L1.out _ gWA).mono ?_;rintro e w2 ⟨rfl,M⟩;have y3:w2.cell? ⟨wr.heap.size,3,none⟩=some (.slice ka p.key.length Z):=M.cell (by simp [go_sem]) (by simp);have y4:w2.cell? ⟨wr.heap.size,4,none⟩=some (.slice xa p.X.length a4):=M.cell (by simp [go_sem]) (by simp);have y5:w2.cell? ⟨wr.heap.size,5,none⟩=some (.slice ua p.U.length Y):=M.cell (by simp [go_sem]) (by simp);have y7:w2.cell? ⟨wr.heap.size,7,none⟩=some (.slice qa p.tail.length O):=M.cell (by simp [go_sem]) (by simp);have G2:=aB (aA (World.grownBy_alloc wr _ none) M);clear M
   go_wp2_with fail
   refine (L2.out _ G2.out).mono ?_;rintro e w3 ⟨rfl,S⟩;have x3:=S.cell y3 (by simp);have x4:=S.cell y4 (by simp);have x5:=S.cell y5 (by simp);have G3:=aB (aA G2.out S);clear S;go_wp2
   go_roundw
   case rel=>exact ⟨k+1,by omega,by go_num,by rw [HS.out,b4.out];go_num,by rw [HQ.out,b9.out];go_num,aA HG.out G3.out⟩
   case measure=>simp [intOf];omega
  ·have ht:t.N.take k=t.N:=(by rw [show k=t.N.length by omega,List.take_length]);rw [ht];have e1:bN t.tail+eO t.N=eO t.N+bN t.tail:=(by omega);have e2:(t.tail.length:Int)+fC t.N=fC t.N+t.tail.length:=(by omega);rw [e1,e2];have HG:=aB y;clear ht e1 e2 u y
   by_cases hT:eO t.N+bN t.tail<=100000
   ·have HF:Hid (decide (eO t.N+bN t.tail<=100000)=true):=decide_eq_true hT;go_wp2;go_ret;exact ⟨by rw [HF.out];rfl,HG.out⟩
   ·have HF:Hid (decide (eO t.N+bN t.tail<=100000)=false):=decide_eq_false hT;go_wp2;go_ret;exact ⟨by rw [HF.out];rfl,HG.out⟩
end Go.Proofs.YtgifkcpdihphlaaGreatDoor
