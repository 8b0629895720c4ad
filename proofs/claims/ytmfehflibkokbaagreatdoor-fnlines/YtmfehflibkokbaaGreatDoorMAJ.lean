import Derived.RangeFuncNested
import Derived.RangeFuncBound
import Derived.RangeFuncCalls
import Derived.RangeFuncLeaves
import Derived.RangeFuncBox
import Derived.Shelf.Abstract
import Derived.Shelf.RegionOpen
import Derived.OwnWalkIn
import Derived.TacticsInMore
import Derived.LoopNIn
import Derived.LoopIn
import Derived.Maps.AppendAt
import Derived.Handy
import Derived.Test.YtmfehflibkokbaaGreatDoorMAI
set_option maxHeartbeats 16000000
set_option maxRecDepth 100000
namespace Go.Proofs.YtmfehflibkokbaaGreatDoor
open Go.Proofs.Tryz
open Go.RowKit Go.Shelf
attribute [local go_sem] Oper.semAt_some
def KpB (n₀ Bx:Nat) (W W':World):Prop:=Below n₀ W W'/\W'.heap[Bx]?=W.heap[Bx]?
theorem aKE {n₀ Bx:Nat} {A B C:World} (h:KpB n₀ Bx A B) (k:KpB n₀ Bx B C):KpB n₀ Bx A C:=⟨h.1.trans k.1,k.2.trans h.2⟩
theorem aKF {n₀ Bx:Nat} {w:World} (E:n₀<=w.heap.size) (J:Bx<w.heap.size) (W:World) (l:Nat) (o y:Obj) (A:w.heap.size<=l) (h:W.heap[l]?=some o) (D:o.isCells=false) (G:o.isWalk=false):KpB n₀ Bx W (W.putObj l y):=
 ⟨belowK_b E W l o y A h D G,World.putObj_heap_other (by omega)⟩
theorem aCm (n:Nat) (hn:1<=n) (l Bx n₀:Nat) (v:Value) (zs:List Int) (d1:Bys zs) (hm:zs.length<=4194304) (U:Sl v zs.length) (J Jx:List (Int × Int)->World->Prop) (W:World)
  (hJ:AbidesFrom W.heap.size J)
  (hY:∀ y x W,J y W->y.length<zs.length->YieldAt Fence.wide (n - 1) prog l #[.int .i64 x.1,.int .i32 x.2] W fun e W'=>
   (e=.returned (.bool true)/\J (y++[x]) W'/\KpB n₀ Bx W W')\/(e=.returned (.bool false)/\Jx (y++[x]) W'))
  (c8:Boxed W Bx 22 v) (hn₀:n₀<=W.heap.size) (hv:RdB n₀ W v zs) (hT:Tab W) (hp:0<n₀) (h0:J [] W) :
  CallsIn Fence.wide n prog 146 #[.func (.yield l) #[] #[],.pointer (some ⟨Bx,0,none⟩)] W fun e W'=>(∃ v,e=.returned v)/\
   ((∃ ys,ys=jZ zs/\J ys W')\/(∃ y,y <+: jZ zs/\Jx y W')):=by
 obtain ⟨a,cap,rfl,f5,c4⟩:=U;unfold maxLen at c4;have d5:∀ (x:Bool) (w:World),(Op.unary .not (.bool x)).run prog w=.ok (.bool (!x)) w:=fun _ _=>rfl;refine callsIn_of_wp func146 rfl trivial ?_ rfl;simp only [ntmps146,List.size_toArray,List.length_cons,List.length_nil,Nat.reduceAdd,Nat.reduceSub,Array.replicate_succ,Array.replicate_zero,List.push_toArray,List.append_toArray,List.nil_append,List.cons_append]
 gi_wp2
 gi_loopw [3] (fun i wr=>∃ (k:Nat) (y:List (Int × Int)),i=.int .i64 k/\sQ zs y k/\J y wr/\Boxed wr Bx 22 (.slice a zs.length cap)/\n₀<=wr.heap.size/\RdB n₀ wr (.slice a zs.length cap) zs/\Tab wr)
  (fun i _=>zs.length - (intOf i).toNat)
 case atStart=>exact ⟨0,[],rfl,sQ.start zs,h0,c8,hn₀,hv,hT⟩
 case round=>
  obtain ⟨k,y,rfl,A,N,X,Z,c2,D⟩:=hrel;have hc:=X.cell;have f4:=A.1;have HM:Hid (sQ zs y k):=A;clear A
  by_cases G:k<zs.length
  ·obtain ⟨a',d3,Y,a8⟩:=c2;obtain ⟨b,off,b7,c6,S⟩:=a8 (fun h=>by simp [h] at G);have d0:a=some ⟨b,off,none⟩:=(by simp at Y;rw [Y.1];exact b7);subst d0;obtain ⟨s,U⟩:∃ s,s=zs.drop k:=⟨_,rfl⟩;have c5:s.length=zs.length - k:=by rw [U,List.length_drop]
   have b6:RdB wr.heap.size wr (.slice (some ⟨b,off+k,none⟩) (zs.length - k) (cap - k)) s:=by
    refine ⟨some ⟨b,off+k,none⟩,cap - k,by rw [c5],fun _=>⟨b,off+k,rfl,by omega,fun j hj=>?_⟩⟩;rw [Nat.add_assoc,S (k+j) (by omega),U,oN]
   have b8:Bys s:=fun z hz=>d1 z (by rw [U] at hz;exact List.mem_of_mem_drop hz);have HR:Hid (RdB n₀ wr (.slice (some ⟨b,off,none⟩) zs.length cap) zs):=⟨_,cap,rfl,fun _=>⟨b,off,rfl,c6,S⟩⟩;have HS:Hid (s=zs.drop k):=U;have f8:¬ cap=k:=(by omega);have a9:=qO _ s wr D b6 b8 (by omega) (by omega);have b5:=a9;clear Y a8 b7 S U b6 b8 a9
   gi_wp2_with fail
   refine ⟨trivial,(callsIn_wide.2 b5).mono ?_⟩;rintro e W1 ⟨rfl,O⟩;have g1:=aC O;have b0:=hJ y wr W1 none N g1 (fun r e=>by cases e);have b1:=X.kept g1 (by simp);have c9:Hid (RdB n₀ W1 (.slice (some ⟨b,off,none⟩) zs.length cap) zs):=HR.out.below (O.mono Z);have c7:Hid (Tab W1):=D.K g1;have b9:n₀<=W1.heap.size:=Nat.le_trans Z g1.size;have f6:=HM.out.2.1;have a6:=hY y ((k:Int),fpP s) W1 b0 (by omega);have HJ:=hJ;have HY:=hY;clear N X D b5 hc O g1 b0 HR Z
   by_cases hf:aL s=0
   ·have E:Hid (y++[((k:Int),fpP s)]=jZ zs):=by
     have h:=HM.out.bad G (by rw [<- HS.out];exact hf);rw [<- HS.out] at h;exact h
    have M:(fpP s == -1)=true:=(by rw [eM hf];rfl);obtain ⟨fn,tmps,assign,body,hy,hR⟩:=a6;dsimp only at hy;clear hf;generalize fpP s=p at hy E M hR
    gi_wp2
    refine hR.mono ?_;rintro e W3 (⟨rfl,hJ3,hk3⟩ | ⟨rfl,hJx3⟩)
    ·gi_wp2
     refine bodyPost_ret (results_none rfl _ _ _) rfl ?_;exact ⟨⟨_,rfl⟩,.inl ⟨_,E.out,hJ3⟩⟩
    ·gi_wp2
     refine bodyPost_ret (results_none rfl _ _ _) rfl ?_;exact ⟨⟨_,rfl⟩,.inr ⟨_,by rw [E.out];exact List.prefix_refl _,hJx3⟩⟩
   ·have E:Hid (sQ zs (y++[((k:Int),fpP s)]) (k+aL s)):=by
     have h:=HM.out.step G (by rw [<- HS.out];exact hf);rw [<- HS.out] at h;exact h
    have M:(fpP s == -1)=false:=(by have:=aK0 hf;simp;omega);have c3:=E.out.1;obtain ⟨fn,tmps,assign,body,hy,hR⟩:=a6;dsimp only at hy;generalize fpP s=p at hy E M hR;generalize aL s=m at E c3 hf
    gi_wp2
    refine hR.mono ?_;rintro e W3 (⟨rfl,hJ3,hk3⟩ | ⟨rfl,hJx3⟩)
    ·gi_wp2
     go_roundw
     case rel=>exact ⟨k+m,_,by go_num,E.out,hJ3,hk3.2.trans b1,Nat.le_trans b9 hk3.1.size,c9.out.below hk3.1,c7.out.below hk3.1 hp⟩
     case measure=>simp [intOf];omega
    ·gi_wp2
     refine bodyPost_ret (results_none rfl _ _ _) rfl ?_;exact ⟨⟨_,rfl⟩,.inr ⟨_,E.out.prefix,hJx3⟩⟩
  ·gi_wp2
   go_end0
   exact ⟨⟨_,rfl⟩,.inl ⟨y,HM.out.done G,N⟩⟩
theorem wT (n:Nat) (a:Option Addr) (h cap:Nat) (w:World) :
  CallsIn Fence.wide n prog 124 #[.slice a h cap] w fun e w'=>e=.returned (.func (.func 146) #[] #[.pointer (some ⟨w.heap.size,0,none⟩)])/\w.alloc (.cells #[.slice a h cap] 22)=w':=by
 refine callsIn_of_wp func124 rfl trivial ?_ rfl;simp only [ntmps124,List.size_toArray,List.length_cons,List.length_nil,Nat.reduceAdd,Nat.reduceSub,Array.replicate_succ,Array.replicate_zero,List.push_toArray,List.append_toArray,List.nil_append,List.cons_append]
 gi_wp2
 go_ret;exact ⟨rfl,rfl⟩
theorem qV (n:Nat) (O:1<=n) (Bx n₀:Nat) (v:Value) (zs:List Int) (w:World) (D:Bys zs) (Y:zs.length<=4194304) (M:Sl v zs.length) (y:Boxed w Bx 22 v) (hn₀:n₀<=w.heap.size)
  (hv:RdB n₀ w v zs) (E:Tab w) (S:0<n₀) :
  SeqStopsK Fence.wide n prog 146 #[.pointer (some ⟨Bx,0,none⟩)] (fun x:Int × Int=>#[Value.int .i64 x.1,Value.int .i32 x.2]) (KpB n₀ Bx) (fun ys=>ys=jZ zs) (fun A=>A <+: jZ zs) zs.length w:=fun l J X W h N _ U G=>
 aCm n O l Bx n₀ v zs D Y M J X W N U (y.kept (aC h) (by simp)) (Nat.le_trans hn₀ h.size) (hv.below (h.mono hn₀)) (E.below h E.pos) S G
end Go.Proofs.YtmfehflibkokbaaGreatDoor
namespace Go.Proofs.YtmfehflibkokbaaGreatDoor
open Go.Proofs.Tryz
open Go.RowKit
theorem aB8 {B:Nat} {w:World} {e:TypeId} {size n m:Nat} {g cap:Nat} {xs:List Value} (h:w.ownsRow B e size (.slice (some ⟨g,0,none⟩) n cap) n xs) (S:m<=n) :
  w.ownsRow B e size (.slice (some ⟨g,0,none⟩) m cap) m (xs.take (m*size)):=by
 rcases h.2 with ⟨A,_⟩ | ⟨X,M,J,A,O,N,U,E,D,y⟩
 ·simp at A
 ·simp only [Value.slice.injEq,Option.some.injEq,Addr.mk.injEq,and_true,true_and] at A;obtain ⟨rfl,rfl⟩:=A;have G:m*size<=n*size:=Nat.mul_le_mul_right _ S;refine ⟨by rw [List.length_take,h.1];omega,.inr ⟨g,cap,J,rfl,O,N,by omega,E,D,?_⟩⟩;rw [<- y,List.take_take,Nat.min_eq_left G]
theorem aU {B:Nat} {w:World} {e:TypeId} {size n:Nat} {v:Value} {xs:List Value} (h:w.ownsRow B e size v n xs):∃ a cap,v=.slice a n cap/\n<=cap/\cap<=maxLen:=by
 rcases h.2 with ⟨hv,E⟩ | ⟨g,cap,G,hv,N,M,A,y,D,J⟩
 ·exact ⟨_,0,by rw [hv,E],by omega,by unfold maxLen;omega⟩
 ·exact ⟨_,cap,hv,A,y⟩
theorem uR (v:Value) (zs:List Int) (w:World) (hv:RdB w.heap.size w v zs) (y:Bys zs) (G:zs.length<=1048576) :
  Calls prog 10 #[v] w fun e w'=>e=.returned (.int .i64 (aI zs))/\w.grownBy w' none:=by
 have S:=uO zs
 by_cases A:(eS zs).2.1=0
 ·have HW:Hid (aI zs=((eS zs).1.length:Int)):=by unfold Hid aI;rw [if_pos A]
  go_enter func10,ntmps10
  go_wp2_with fail
  refine (fK v zs w hv y G).mono ?_;rintro e M ⟨N,rfl,D,E⟩;obtain ⟨a1,J,h,_⟩:=D.rd;rw [h];clear h D hv;go_wp2;go_ret;exact ⟨by rw [HW.out];rfl,E⟩
 ·have HW:Hid (aI zs = -1):=(by unfold Hid aI;rw [if_neg A]);have O:((eS zs).2.1 != 0)=true:=by simp [A]
  go_enter func10,ntmps10
  go_wp2_with fail
  refine (fK v zs w hv y G).mono ?_;rintro e M ⟨N,rfl,D,E⟩;clear D hv A;go_wp2;go_ret;exact ⟨by rw [HW.out];rfl,E⟩
structure Doc (doc:List Pc):Prop where
 len:doc.length<=1048576
 tlen:∀ p∈doc,p.t.length<=1048576
 sum:cM doc<=1048576
 bys:∀ p∈doc,Bys p.t
theorem fP (t:List Int) : -1<=aI t/\aI t<=t.length:=by
 have:=uO t;unfold aI
 split<;>omega
theorem aCI {P:Program} {w:World} (base:Nat) (t E e:TypeId) (i:TypeInfo) (size:Nat) (A:P.underlying t=some (.slice e)) (D:P.info? e=some i)
  (v:Value) (n:Nat) (xs:List Value) (h:w.ownsRow base e size v n xs) (c:Nat):(Builtin.append_ #[t,t] E #[v,.slice none 0 c]).run P w=.ok v w:=by
 rcases h.2 with ⟨rfl,rfl⟩ | ⟨g,cap,G,rfl,_,_,y,_⟩
 ·simp [Builtin.append_,run_underlying A,sizeOf,typeInfo,D,Builtin.lenOf,Builtin.firstCells]
 ·simp [Builtin.append_,run_underlying A,sizeOf,typeInfo,D,Builtin.lenOf,Builtin.firstCells,y,storeCells]
theorem wW (B B':Nat) (w:World) (v tv:Value) (ys t:List Int) (h:OwB B w v ys) (M:RdB B' w tv t) (hB:B<=w.heap.size) (hn:ys.length+t.length<=100000000000) :
  ∃ D w',(Builtin.append_ #[22,22] 22 #[v,tv]).run prog w=.ok D w'/\OwB B w' D (ys++t)/\w.grownBy w' v.ownBlock/\(D.ownBlock=v.ownBlock\/D.ownBlock=some w.heap.size):=by
 obtain ⟨i0,hi,S,G,O⟩:=info_parts mF;obtain ⟨a,cap,N,Z⟩:=M;subst N;cases a with
 | none=>
   have ht:t=[]:=by
    rcases t with _ | ⟨z,zs⟩
    ·rfl
    ·obtain ⟨b,off,J,_⟩:=Z (by simp);cases J
   subst ht;exact ⟨v,w,aCI B _ _ _ i0 1 underlying22 hi v _ _ h cap,by simpa using h,World.grownBy.refl _ _,.inl rfl⟩
 | some ad=>
   have A:∀ j u,(t.map (Value.int .u8))[j]?=some u->w.cell? (ad.add j)=some u:=by
    intro j u U;have y:j<t.length:=(by have:=(List.getElem?_eq_some_iff.1 U).1;simpa using this);obtain ⟨b2,X,J,_,hc⟩:=Z (fun e=>by rw [e] at y;simp at y);cases J;rw [Addr.add_lit,hc j y];simpa [y] using U
   obtain ⟨D,w',E,h1,h2,_,h4⟩:=run_append_own_at (P:=prog) w B 22 22 5 i0 (.int .u8 0) 1 1 underlying22 hi S G O rfl (by decide) v ys.length (ys.map (Value.int .u8)) h ad t.length cap (t.map (Value.int .u8)) (by simp) A
    (by intro u Y;simp only [List.mem_map] at Y;obtain ⟨z,_,rfl⟩:=Y;rfl) (by unfold maxLen;omega) (by omega) hB
   exact ⟨D,w',E,by unfold OwB Ow;simpa using h1,h2,h4⟩
end Go.Proofs.YtmfehflibkokbaaGreatDoor
namespace Go.Proofs.YtmfehflibkokbaaGreatDoor
open Go.Proofs.Tryz
open Go.RowKit Go.Shelf
attribute [local go_sem] Oper.semAt_some
theorem aBD (W:World) (v:Value) (t:TypeId):(W.alloc (.cells #[v] t)).cell? ⟨W.heap.size,0,none⟩=some v/\(W.alloc (.cells #[v] t)).frozen? ⟨W.heap.size,0,none⟩=false:=
 ⟨(Boxed.new W t v).cell,(Boxed.new W t v).frozen⟩
theorem dD {W:World} {a:Addr} {v:Value} (o:Obj) (h:W.cell? a=some v):(W.alloc o).cell? a=some v:=cell_kept h (World.grownBy_alloc W o none) (fun r e=>by cases e)
theorem dM {W:World} {a:Addr} {v:Value} (o:Obj) (h:W.cell? a=some v) (y:W.frozen? a=false):(W.alloc o).frozen? a=false:=(frozen_kept h (World.grownBy_alloc W o none) (fun r e=>by cases e)).trans y
theorem aEm {zs:List Int} (h:∀ x∈jZ zs,x.2≠-1):aI zs=((jZ zs).length:Int):=by
 unfold aI;rw [aBl h];simp
theorem aEY {zs:List Int} {q:List (Int × Int)} {x:Int × Int} (h:q++[x] <+: jZ zs) (y:x.2 = -1):aI zs = -1:=by
 unfold aI;rw [aBj h y];simp
theorem wE (n:Nat) (hn:3<=n) (v:Value) (zs:List Int) (w:World) (hv:RdB w.heap.size w v zs) (b6:Bys zs) (hm:zs.length<=1048576) (G:Sl v zs.length) (hT:Tab w) :
  CallsIn Fence.wide n prog 140 #[v] w fun e w'=>e=.returned (.int .i64 (aI zs))/\Below w.heap.size w w':=by
 have h1:1<=n:=(by omega);have b3:=G;obtain ⟨a,cap,rfl,c4,c3⟩:=b3;have N:=hT.pos;refine callsIn_of_wp_marks func140 rfl trivial ?_ rfl;simp only [ntmps140,List.size_toArray,List.length_cons,List.length_nil,Nat.reduceAdd,Nat.reduceSub,Array.replicate_succ,Array.replicate_zero,List.push_toArray,List.append_toArray,List.nil_append,List.cons_append]
 gi_wp2_with fail
 refine ⟨trivial,(wT (n - 1) _ _ _ _).mono ?_⟩;rintro e w' ⟨rfl,rfl⟩
 gi_wp2_with fail
 have c0:=aBD w (.int .i64 0) 3;have c1:=aBD (w.alloc (.cells #[.int .i64 0] 3)) (.int .i64 0) 3;have bx:=Boxed.new ((w.alloc (.cells #[.int .i64 0] 3)).alloc (.cells #[.int .i64 0] 3)) 22 (.slice a zs.length cap);simp only [World.size_alloc] at c1 bx;have S:Below w.heap.size w (((w.alloc (.cells #[.int .i64 0] 3)).alloc (.cells #[.int .i64 0] 3)).alloc (.cells #[.slice a zs.length cap] 22)):=(((Below.refl _ w).alloc (Nat.le_refl _) _).alloc (by simp) _).alloc (by simp;omega) _
 refine wpIn_rangeFunc_ownF rfl h1 (gf:=146) (lb:=#[.pointer (some ⟨w.heap.size+1+1,0,none⟩)]) rfl trivial (enters_of func146 (by kernel_rfl) rfl)
  (qV (n - 1) (by omega) (w.heap.size+1+1) w.heap.size _ zs _ b6 (by omega) G bx (by simp;omega) (hv.below S) (hT.below S N) N) aKE (aKF (by simp;omega) (by simp)) (Below.refl _ _) (fun _=>rfl)
  (fun (E:List (Int × Int)) W=>((∀ x∈E,x.2≠-1)/\W.cell? ⟨w.heap.size+1,0,none⟩=some (.int .i64 (E.length:Int))/\W.frozen? ⟨w.heap.size+1,0,none⟩=false/\W.cell? ⟨w.heap.size,0,none⟩=some (.int .i64 0)/\W.frozen? ⟨w.heap.size,0,none⟩=false)/\Below w.heap.size w W)
  (fun c (E:List (Int × Int)) W=>(c=.ret/\(∃ (q:List (Int × Int)) (x:Int × Int),E=q++[x]/\x.2 = -1)/\W.cell? ⟨w.heap.size,0,none⟩=some (.int .i64 (-1)))/\Below w.heap.size w W)
  (OwnFrom.and (Own.from (fun s A B b4 G hg hr=>⟨G.1,cell_kept G.2.1 hg hr,(frozen_kept G.2.1 hg hr).trans G.2.2.1,cell_kept G.2.2.2.1 hg hr,(frozen_kept G.2.2.2.1 hg hr).trans G.2.2.2.2⟩) _) (ownFrom_below (Nat.le_refl _) (by simp;omega)))
  (fun c=>OwnFrom.and (Own.from (fun s A B b4 G hg hr=>⟨G.1,G.2.1,cell_kept G.2.2 hg hr⟩) _) (ownFrom_below (Nat.le_refl _) (by simp;omega)))
  ⟨⟨by simp,dD _ c1.1,dM _ c1.1 c1.2,dD _ (dD _ c0.1),dM _ (dD _ c0.1) (dM _ c0.1 c0.2)⟩,S⟩
  (fun x=>{ tmps:=#[.slice a zs.length cap,undef,.pointer (some ⟨w.heap.size,0,none⟩),.pointer (some ⟨w.heap.size+1,0,none⟩),undef,.int .i32 x.2,.slice a zs.length cap,.func (.func 146) #[] #[.pointer (some ⟨w.heap.size+1+1,0,none⟩)],.int .i64 x.1,.int .i32 x.2,undef,undef,undef,undef,undef],defers:=[] }) ?assign ?body ?done ?stop
 case assign=>
  intro l x W K U
  gi_wp2
  exact U
 case body=>
  rintro l E x W ⟨⟨M,a8,b0,J,a9⟩,Z⟩ c6
  gi_wp2
  ·rename_i hx
   have Y:x.2 = -1:=(by simpa using hx);exact ⟨KeepsOthers.setCell _ _ _,⟨rfl,⟨E,x,rfl,Y⟩,World.cell?_setCell_same' _ _ _ (by rw [J];rfl)⟩,Z.setCell (p:=⟨w.heap.size,0,none⟩) (Nat.le_refl _) _⟩
  ·rename_i hx
   have Y:x.2≠-1:=(by simpa using hx);refine ⟨KeepsOthers.setCell _ _ _,⟨(Below.refl w.heap.size W).setCell (p:=⟨w.heap.size+1,0,none⟩) (by simp) _,Below.heap_setCell _ _ _ _ (by simp)⟩,⟨?_,?_,?_,?_,?_⟩,Z.setCell (p:=⟨w.heap.size+1,0,none⟩) (by simp) _⟩
   ·intro y hy;rcases List.mem_append.1 hy with h | h
    ·exact M y h
    ·simp at h;subst h;exact Y
   ·rw [World.cell?_setCell_same' _ _ _ (by rw [a8];rfl)];simp
   ·rw [World.frozen?_setCell];exact b0
   ·exact (World.cell?_setCell_other _ _ _ _ (by simp)).trans J
   ·rw [World.frozen?_setCell];exact a9
 case done=>
  rintro D ys W hD rfl ⟨⟨M,a8,b0,J,a9⟩,Z⟩ U;have HW:Hid (aI zs=((jZ zs).length:Int)):=aEm M
  gi_wp2
  have O:=(KeepsOthers.setCell W ⟨w.heap.size,0,none⟩ (.int .i64 ((jZ zs).length:Int))).same D _ U rfl;refine ⟨by simp,.inl ⟨_,_,rfl,run_takeDeferred O,?_⟩⟩;have X:=cell_kept (World.cell?_setCell_same' W ⟨w.heap.size,0,none⟩ (.int .i64 ((jZ zs).length:Int)) (by rw [J];rfl)) (grownBy_putObj' _ D (.deferred none)) (fun r e=>by cases e;exact ⟨_,O,rfl⟩);refine ⟨.int .i64 ((jZ zs).length:Int),?_,by rw [HW.out],(Z.setCell (p:=⟨w.heap.size,0,none⟩) (Nat.le_refl _) _).trans (belowK_b (w:=w) (Nat.le_refl _) _ D _ _ (by simp at hD;omega) O rfl rfl)⟩;simp [results,Tryz.f140,go_sem,X]
 case stop=>
  rintro D c E W hD a7 ⟨⟨rfl,⟨q,x,hq,hx⟩,J⟩,Z⟩ U;have HW:Hid (aI zs = -1):=aEY (by rw [<- hq];exact a7) hx
  gi_wp2
  refine ⟨by simp,.inl ⟨_,_,rfl,run_takeDeferred U,?_⟩⟩;have X:=cell_kept J (grownBy_putObj' _ D (.deferred none)) (fun r e=>by cases e;exact ⟨_,U,rfl⟩);refine ⟨.int .i64 (-1),?_,by rw [HW.out],Z.trans (belowK_b (w:=w) (Nat.le_refl _) W D _ _ (by simp at hD;omega) U rfl rfl)⟩;simp [results,Tryz.f140,go_sem,X]
theorem tO (v:Value) (zs:List Int) (w:World) (hv:RdB w.heap.size w v zs) (y:Bys zs) (E:zs.length<=1048576) (D:Sl v zs.length) (A:Tab w) :
  Calls prog 140 #[v] w fun e w'=>e=.returned (.int .i64 (aI zs))/\w.grownBy w' none:=
 (callsIn_wide.1 (wE 3 (Nat.le_refl _) v zs w hv y E D A)).mono fun _ _ h=>⟨h.1,aC h.2⟩
end Go.Proofs.YtmfehflibkokbaaGreatDoor
namespace Go.Proofs.YtmfehflibkokbaaGreatDoor
open Go.Proofs.Tryz
open Go.RowKit
theorem qB:(prog.info? 62).map (fun i=>(i.zero,i.size,i.bytes))=some (some .nilIface,1,16):=by kernel_rfl
theorem aIP:(prog.info? 209).map (fun i=>(i.zero,i.size,i.bytes))=some (some (.agg #[.nilIface,.int .i64 0]),2,24):=by kernel_rfl
def Rep (X:Nat->Prop) (B:Nat) (w:World):Value->Tr->Prop
 | v,.leaf p=>
   (p.k=0/\v=.iface 178 (.agg #[]))\/(p.k=2/\v=.iface 73 (.agg #[]))\/(p.k=3/\v=.iface 179 (.agg #[]))\/
   (p.k=4/\v=.iface 74 (.agg #[]))\/(p.k=5/\v=.iface 75 (.agg #[]))\/
   (p.k=1/\∃ b tv,v=.iface 67 (.pointer (some ⟨b,0,none⟩))/\¬ X b/\b<w.heap.size/\w.heap[b]?=some (.cells #[tv,.int .i64 (aI p.t)] 71)/\RdB B w tv p.t/\Sl tv p.t.length)
 | v,.un p x=>
   ∃ b u,¬ X b/\b<w.heap.size/\w.cell? ⟨b,0,none⟩=some u/\Rep X B w u x/\
    ((p.k=8/\v=.iface 185 (.pointer (some ⟨b,0,none⟩)))\/(p.k=7/\v=.iface 180 (.pointer (some ⟨b,0,none⟩))))
 | v,.bin p x y=>
   ∃ b u u',¬ X b/\b<w.heap.size/\w.cell? ⟨b,0,none⟩=some u/\w.cell? ⟨b,1,none⟩=some u'/\Rep X B w u x/\Rep X B w u' y/\
    ((p.k=6/\v=.iface 188 (.pointer (some ⟨b,0,none⟩)))\/(p.k=9/\v=.iface 192 (.pointer (some ⟨b,0,none⟩))))
theorem Rep.turn {X X':Nat->Prop} {B:Nat} {w w':World} (U:w.heap.size<=w'.heap.size) (G:∀ b,b<w.heap.size->¬ X b->w'.heap[b]?=w.heap[b]?) (E:∀ b,b<w.heap.size->X' b->X b)
  (S:∀ tv t,RdB B w tv t->RdB B w' tv t):∀ {T:Tr} {v:Value},Rep X B w v T->Rep X' B w' v T
 | .leaf p,v,h=>by
   simp only [Rep] at h ⊢;rcases h with h | h | h | h | h | ⟨h1,b,tv,h2,D,A,M,N,h8⟩
   ·exact .inl h
   ·exact .inr (.inl h)
   ·exact .inr (.inr (.inl h))
   ·exact .inr (.inr (.inr (.inl h)))
   ·exact .inr (.inr (.inr (.inr (.inl h))))
   ·have J:=G b A D;exact .inr (.inr (.inr (.inr (.inr ⟨h1,b,tv,h2,fun O=>D (E b A O),by omega,J.trans M,S _ _ N,h8⟩))))
 | .un p x,v,h=>by
   simp only [Rep] at h ⊢;obtain ⟨b,u,D,A,M,Z,N⟩:=h;have J:=G b A D;exact ⟨b,u,fun O=>D (E b A O),by omega,(World.cell?_of_block J).trans M,Z.turn U G E S,N⟩
 | .bin p x y,v,h=>by
   simp only [Rep] at h ⊢;obtain ⟨b,u,u',D,A,M,a4,Z,Y,N⟩:=h;have J:=G b A D;exact ⟨b,u,u',fun O=>D (E b A O),by omega,(World.cell?_of_block J).trans M,(World.cell?_of_block J).trans a4,Z.turn U G E S,Y.turn U G E S,N⟩
theorem Rep.form {X:Nat->Prop} {B:Nat} {w:World} : ∀ {T:Tr} {v:Value},Rep X B w v T->∃ t u,v=.iface t u
 | .leaf p,v,h=>by
   simp only [Rep] at h;rcases h with h | h | h | h | h | ⟨U,b,tv,N,_⟩
   ·exact ⟨_,_,h.2⟩
   ·exact ⟨_,_,h.2⟩
   ·exact ⟨_,_,h.2⟩
   ·exact ⟨_,_,h.2⟩
   ·exact ⟨_,_,h.2⟩
   ·exact ⟨_,_,N⟩
 | .un p x,v,h=>by
   simp only [Rep] at h;obtain ⟨b,u,G,D,E,M,A | A⟩:=h
   ·exact ⟨_,_,A.2⟩
   ·exact ⟨_,_,A.2⟩
 | .bin p x y,v,h=>by
   simp only [Rep] at h;obtain ⟨b,u,S,G,D,E,O,M,J,A | A⟩:=h
   ·exact ⟨_,_,A.2⟩
   ·exact ⟨_,_,A.2⟩
def cS (w:World):Value->Tr->List Value->Prop
 | v,.leaf _,l=>l=[v]
 | v,.un p x,l=>∃ t b u l1,v=.iface t (.pointer (some ⟨b,0,none⟩))/\w.cell? ⟨b,0,none⟩=some u/\(p.k=7->w.cell? ⟨b,1,none⟩=some (.int .i64 p.n))/\cS w u x l1/\l=l1++[v]
 | v,.bin _ x y,l=>∃ t b u u' l1 l2,v=.iface t (.pointer (some ⟨b,0,none⟩))/\w.cell? ⟨b,0,none⟩=some u/\w.cell? ⟨b,1,none⟩=some u'/\cS w u x l1/\cS w u' y l2/\l=l1++l2++[v]
theorem cS.turn {X:Nat->Prop} {B:Nat} {w w':World} (J:∀ b,b<w.heap.size->¬ X b->w'.heap[b]?=w.heap[b]?):∀ {T:Tr} {v:Value} {l:List Value},Rep X B w v T->cS w v T l->cS w' v T l
 | .leaf _,v,l,_,h=>h
 | .un p x,v,l,hr,h=>by
   simp only [Rep] at hr;simp only [cS] at h ⊢;obtain ⟨b0,u0,h3,Z,O,h6,A⟩:=hr;obtain ⟨t,b,u,l1,hv,D,k2,k3,U⟩:=h
   have G:b=b0:=by
    rcases A with ⟨_,A⟩ | ⟨_,A⟩<;>(rw [hv] at A;simp at A;exact A.2)
   subst G;have M:=J b Z h3;have hu:u0=u:=(by rw [O] at D;exact Option.some.inj D);subst hu;exact ⟨t,b,u0,l1,hv,(World.cell?_of_block M).trans D,fun e=>(World.cell?_of_block M).trans (k2 e),k3.turn J h6,U⟩
 | .bin p x y,v,l,hr,h=>by
   simp only [Rep] at hr;simp only [cS] at h ⊢;obtain ⟨b0,u0,N,h3,Z,O,Y,h6,a4,A⟩:=hr;obtain ⟨t,b,u,u',l1,l2,hv,D,E,k3,S,U⟩:=h
   have G:b=b0:=by
    rcases A with ⟨_,A⟩ | ⟨_,A⟩<;>(rw [hv] at A;simp at A;exact A.2)
   subst G;have M:=J b Z h3;have hu:u0=u:=(by rw [O] at D;exact Option.some.inj D);have a8:N=u':=(by rw [Y] at E;exact Option.some.inj E);subst hu a8;exact ⟨t,b,u0,N,l1,l2,hv,(World.cell?_of_block M).trans D,(World.cell?_of_block M).trans E,k3.turn J h6,S.turn J a4,U⟩
structure Mk where
 v:Value
 T:Tr
 n:Int
 l:List Value
def iP:List Mk->List Value
 | []=>[]
 | x::r=>x.v::.int .i64 x.n::iP r
def bY:List Mk->List Value
 | []=>[]
 | x::r=>x.l++bY r
theorem kE:∀ (r:List Mk),(iP r).length=r.length*2
 | []=>rfl
 | x::r=>by simp only [iP,List.length_cons,kE r];omega
theorem oR:∀ (r s:List Mk),iP (r++s)=iP r++iP s
 | [],s=>rfl
 | x::r,s=>by simp only [List.cons_append,iP,oR r s]
theorem cY:∀ (r s:List Mk),bY (r++s)=bY r++bY s
 | [],s=>rfl
 | x::r,s=>by simp only [List.cons_append,bY,cY r s,List.append_assoc]
theorem dC (x:Mk):bY [x]=x.l:=by simp [bY]
def Xof (bb:Nat) (nv rv:Value) (b:Nat):Prop:=b=bb\/nv.ownBlock=some b\/rv.ownBlock=some b
structure lF (X:Nat->Prop) (w:World) (ns:List Value):Prop where
 nd:ns.Pairwise fun x y=>∀ t b,y=.iface t (.pointer (some ⟨b,0,none⟩))->x≠y
 lt:∀ t b,.iface t (.pointer (some ⟨b,0,none⟩))∈ns->¬ X b/\∃ cs t',w.heap[b]?=some (.cells cs t')
theorem lF.lts {X:Nat->Prop} {w:World} {y:List Value} (h:lF X w y) {t:TypeId} {b:Nat} (D : .iface t (.pointer (some ⟨b,0,none⟩))∈y):b<w.heap.size:=by
 obtain ⟨_,E,G,A⟩:=h.lt t b D;exact (Array.getElem?_eq_some_iff.1 A).1
theorem lF.turn {X A:Nat->Prop} {w w':World} {D:List Value} (J:∀ b,b<w.heap.size->¬ X b->w'.heap[b]?=w.heap[b]?) (M:∀ b,b<w.heap.size->A b->X b) (h:lF X w D):lF A w' D:=by
 refine ⟨h.nd,fun t b E=>?_⟩;have G:=h.lts E;obtain ⟨y,N,O,S⟩:=h.lt t b E;exact ⟨fun U=>y (M b G U),N,O,(J b G y).trans S⟩
theorem lF.snoc {X S:Nat->Prop} {w w':World} {G:List Value} {v:Value} (M:∀ b,b<w.heap.size->¬ X b->w'.heap[b]?=w.heap[b]?) (N:∀ b,b<w.heap.size->S b->X b) (h:lF X w G)
  (U:∀ t b,v=.iface t (.pointer (some ⟨b,0,none⟩))->(¬ X b/\∃ D E,w.heap[b]?=some (.cells D E))/\v ∉ G):lF S w' (G++[v]):=by
 refine ⟨?_,?_⟩
 ·rw [List.pairwise_append];refine ⟨h.nd,by simp,?_⟩;intro a Z b y t k Y e;simp only [List.mem_singleton] at y;subst y;subst e;exact (U t k Y).2 Z
 ·intro t b hm;rcases List.mem_append.1 hm with A | A
  ·exact (h.turn M N).lt t b A
  ·simp only [List.mem_singleton] at A;obtain ⟨⟨O,D,E,J⟩,_⟩:=U t b A.symm;have y:=(Array.getElem?_eq_some_iff.1 J).1;exact ⟨fun hx=>O (N b y hx),D,E,(M b y O).trans J⟩
theorem lF.new {X:Nat->Prop} {w:World} {y:List Value} (h:lF X w y) (t:TypeId) (b:Nat) (D:w.heap.size<=b) : .iface t (.pointer (some ⟨b,0,none⟩)) ∉ y:=fun A=>by
 have:=h.lts A;omega
structure Bst (B:Nat) (w:World) (bb:Nat) (nv rv:Value) (rs:List Mk) (ns:List Value) (room:Int):Prop where
 big:B<=bb
 c0:w.cell? ⟨bb,0,none⟩=some nv
 f0:w.frozen? ⟨bb,0,none⟩=false
 c1:w.cell? ⟨bb,1,none⟩=some rv
 f1:w.frozen? ⟨bb,1,none⟩=false
 c2:w.cell? ⟨bb,2,none⟩=some (.int .i64 room)
 f2:w.frozen? ⟨bb,2,none⟩=false
 nrow:w.ownsRow B 62 1 nv ns.length ns
 row:w.ownsRow B 209 2 rv rs.length (iP rs)
 ap:rv.ownBlock≠some bb
 nap:nv.ownBlock≠some bb
 nr:∀ g,nv.ownBlock=some g->rv.ownBlock≠some g
 once:lF (Xof bb nv rv) w ns
 rep:∀ x∈rs,Rep (Xof bb nv rv) B w x.v x.T
 post:∀ x∈rs,cS w x.v x.T x.l
theorem Bst.lt {B:Nat} {w:World} {A:Nat} {nv D:Value} {E:List Mk} {G:List Value} {y:Int} (h:Bst B w A nv D E G y):A<w.heap.size:=World.block_lt_of_cell? w _ h.c0
theorem Bst.K {B:Nat} {w w':World} {J:Nat} {nv G:Value} {M:List Mk} {N:List Value} {A:Int} (h:Bst B w J nv G M N A) (y:w.grownBy w' none):Bst B w' J nv G M N A:=by
 have a:=sR y h.c0 h.f0;have b:=sR y h.c1 h.f1;have c:=sR y h.c2 h.f2
 refine ⟨h.big,a.1,a.2,b.1,b.2,c.1,c.2,World.ownsRow.kept h.nrow y (by cases nv.ownBlock<;>simp),World.ownsRow.kept h.row y (by cases G.ownBlock<;>simp),h.ap,h.nap,h.nr,h.once.turn (fun b D _=>y.block b D (by simp)) (fun _ _ h=>h),fun x E=>(h.rep x E).turn y.size (fun b D _=>y.block b D (by simp)) (fun _ _ h=>h) (fun tv t O=>O.K y),
  fun x E=>(h.post x E).turn (fun b D _=>y.block b D (by simp)) (h.rep x E)⟩
theorem Rep.K {X:Nat->Prop} {B:Nat} {w w':World} {T:Tr} {v:Value} (h:Rep X B w v T) (y:w.grownBy w' none):Rep X B w' v T:=
 h.turn y.size (fun b D _=>y.block b D (by simp)) (fun _ _ h=>h) (fun tv t A=>A.K y)
theorem cS.K {X:Nat->Prop} {B:Nat} {w w':World} {T:Tr} {v:Value} {l:List Value} (h:cS w v T l) (y:Rep X B w v T) (A:w.grownBy w' none):cS w' v T l:=
 h.turn (fun b D _=>A.block b D (by simp)) y
structure Fr (B bb:Nat) (nv rv nv' rv':Value) (w w':World):Prop where
 bel:Below B w w'
 blk:∀ b,b<w.heap.size->¬ Xof bb nv rv b->w'.heap[b]?=w.heap[b]?
 mono:∀ b,b<w.heap.size->Xof bb nv' rv' b->Xof bb nv rv b
theorem Fr.rep {B D:Nat} {nv G y A:Value} {w w':World} (h:Fr B D nv G y A w w') {T:Tr} {v:Value} (E:Rep (Xof D nv G) B w v T):Rep (Xof D y A) B w' v T:=
 E.turn h.bel.size h.blk h.mono (fun _ _ E=>Rd.below E h.bel)
theorem Fr.post {B D:Nat} {nv E y A:Value} {w w':World} (h:Fr B D nv E y A w w') {T:Tr} {v:Value} {l:List Value} (G:Rep (Xof D nv E) B w v T) (J:cS w v T l):cS w' v T l:=
 J.turn h.blk G
theorem Fr.cell {B D:Nat} {nv G y A:Value} {w w':World} (h:Fr B D nv G y A w w') {a:Addr} {v:Value} (E:w.cell? a=some v) (J:¬ Xof D nv G a.block):w'.cell? a=some v:=
 (World.cell?_of_block (h.blk a.block (World.block_lt_of_cell? w a E) J)).trans E
theorem Fr.grown {B D:Nat} {nv E y A:Value} {w w' J:World} (h:Fr B D nv E y A w w') (G:w'.grownBy J none) (N:B<=w.heap.size):Fr B D nv E y A w J:=
 ⟨h.bel.grown G (Nat.le_trans N h.bel.size) (fun k e=>by cases e),fun b M O=>(G.block b (Nat.lt_of_lt_of_le M h.bel.size) (by simp)).trans (h.blk b M O),h.mono⟩
theorem Fr.trans {B J:Nat} {nv M D G A E:Value} {w w' N:World} (h:Fr B J nv M D G w w') (k:Fr B J D G A E w' N):Fr B J nv M A E w N:=
 ⟨h.bel.trans k.bel,fun b y O=>(k.blk b (Nat.lt_of_lt_of_le y h.bel.size) (fun e=>O (h.mono b y e))).trans (h.blk b y O),fun b y e=>h.mono b y (k.mono b (Nat.lt_of_lt_of_le y h.bel.size) e)⟩
theorem zZ (w:World) (x y:Value) (t:TypeId):∀ j u,[x,y][j]?=some u->(w.alloc (.cells #[x,y] t)).cell? ((⟨w.heap.size,0,none⟩:Addr).add j)=some u:=by
 intro j u h
 match j,h with
 | 0,h=>
   simp at h;subst h;simp [Addr.add]
 | 1,h=>
   simp at h;subst h;simp [Addr.add]
theorem pD (w:World) (x:Value) (t:TypeId):∀ j u,[x][j]?=some u->(w.alloc (.cells #[x] t)).cell? ((⟨w.heap.size,0,none⟩:Addr).add j)=some u:=by
 intro j u h
 match j,h with
 | 0,h=>
   simp at h;subst h;simp [Addr.add]
theorem jM (B:Nat) (w:World) (G:Nat) (nv rv:Value) (S:List Mk) (M:List Value) (a8:Int) (x:Mk) (N:Bst B w G nv rv S M a8) (hx:Rep (Xof G nv rv) B w x.v x.T) (hp:cS w x.v x.T x.l)
  (hf:∀ t b,x.v=.iface t (.pointer (some ⟨b,0,none⟩))->(¬ Xof G nv rv b/\∃ cs t',w.heap[b]?=some (.cells cs t'))/\x.v ∉ M) (hB:B<=w.heap.size) (hl:S.length<=1048576) (k1:M.length<=1048576) :
  Calls prog 112 #[.pointer (some ⟨G,0,none⟩),x.v,.int .i64 x.n] w fun e w'=>e=.returned (.tuple #[])/\∃ d5 d9,Bst B w' G d5 d9 (S++[x]) (M++[x.v]) a8/\Fr B G nv rv d5 d9 w w':=by
 obtain ⟨i0,hi,h9,f8,h6⟩:=info_parts aIP;obtain ⟨j0,hj,g2,g7,i4⟩:=info_parts qB;obtain ⟨t,u,c5⟩:=hx.form;obtain ⟨ra,O,g5,_,_⟩:=aU N.row;obtain ⟨na,b4,g0,_,_⟩:=aU N.nrow;have c0:=N.c0;have f0:=N.f0;have c1:=N.c1;have f1:=N.f1;have j8:=N.lt;have HS:Hid (Bst B w G nv rv S M a8):=N;have HX:Hid (Rep (Xof G nv rv) B w x.v x.T):=hx;have HP:Hid (cS w x.v x.T x.l):=hp;have h0:Hid (∀ t b,x.v=.iface t (.pointer (some ⟨b,0,none⟩))->(¬ Xof G nv rv b/\∃ cs t',w.heap[b]?=some (.cells cs t'))/\x.v ∉ M):=hf;have b5:=N.row;have b3:=N.nrow;have c7:=N.ap;have b8:=N.nap;have d7:=N.nr;clear N hx hp hf;rw [c5];subst g5;subst g0
 go_enter func112,ntmps112
 go_wp2_with (at_builtin;refine wpList_append_own_at _ rfl _ _ 96 rfl B 62 j0 .nilIface 1 16 underlying96 hj g2 g7 i4 rfl (by decide) _ _ _ rfl (World.ownsRow.alloc b3 _) ⟨w.heap.size,0,none⟩ 1 1 [.iface t u] rfl rfl (pD _ _ _) (by intro u hu;simp at hu;subst hu;rfl) (by unfold maxLen;omega) (by omega) (by simp;omega) ?_)
 intro v1 Z a4 E _ d8;obtain ⟨X,A,g4,_,_⟩:=aU a4;subst g4;have U:some G≠(Value.slice na M.length b4).ownBlock:=fun e=>b8 e.symm;have d0:=E.cell (a:=⟨G,0,none⟩) (dD _ c0) U;have e0:Z.frozen? ⟨G,0,none⟩=false:=(World.frozen?_of_block (E.block G (by simp;omega) U)).trans (dM _ c0 f0);have d1:=E.cell (a:=⟨G,1,none⟩) (dD _ c1) U;have e1:Z.frozen? ⟨G,1,none⟩=false:=(World.frozen?_of_block (E.block G (by simp;omega) U)).trans (dM _ c1 f1)
 have a7:(Value.slice X (M.length+1) A).ownBlock=(Value.slice na M.length b4).ownBlock\/(Value.slice X (M.length+1) A).ownBlock=some (w.heap.size+1):=by
  rcases d8 with h | h
  ·exact .inl h
  ·exact .inr (h.trans (by simp))
 have c4:(Value.slice X (M.length+1) A).ownBlock≠some G:=by
  intro e;rcases a7 with h | h
  ·exact b8 (by rw [<- h];exact e)
  ·rw [e] at h;simp at h;omega
 have d6:=World.ownsRow.lt b5
 have d3:∀ g,(Value.slice X (M.length+1) A).ownBlock=some g->(Value.slice ra S.length O).ownBlock≠some g:=by
  intro g h1 h2;rcases a7 with h | h
  ·exact d7 g (by rw [<- h];exact h1) h2
  ·rw [h1] at h;simp at h;have:=d6 g h2;omega
 have g6:(Z.setCell ⟨G,0,none⟩ (Value.slice X (M.length+1) A)).ownsRow B 209 2 (.slice ra S.length O) S.length (iP S):=by
  refine cP ?_ _ _ c7;refine World.ownsRow.kept (World.ownsRow.alloc b5 _) E ?_;cases h5:(Value.slice ra S.length O).ownBlock with
  | none=>exact .inl rfl
  | some g=>exact .inr fun e=>d7 g e.symm h5
 have h4:=E.size;simp only [World.size_alloc] at h4
 go_wp2_with (at_builtin;refine wpList_append_own_at _ rfl _ _ 143 rfl B 209 i0 (.agg #[.nilIface,.int .i64 0]) 2 24 underlying143 hi h9 f8 h6 rfl (by decide) _ _ _ rfl (World.ownsRow.alloc g6 _) ⟨Z.heap.size,0,none⟩ 1 1 [.iface t u,.int .i64 x.n] rfl rfl (by have:=zZ (Z.setCell ⟨G,0,none⟩ (Value.slice X (M.length+1) A)) (.iface t u) (.int .i64 x.n) 209;simpa using this) (by intro u hu;simp at hu;rcases hu with rfl | rfl<;>rfl) (by unfold maxLen;omega) (by omega) (by simp;omega) ?_)
 intro v2 w2 b6 D _ d2;obtain ⟨ua,J,g8,_,_⟩:=aU b6;subst g8;have Y:some G≠(Value.slice ra S.length O).ownBlock:=fun e=>c7 e.symm;have j2:G<Z.heap.size:=(by omega);have a0:(Z.setCell ⟨G,0,none⟩ (Value.slice X (M.length+1) A)).cell? ⟨G,0,none⟩=some (Value.slice X (M.length+1) A):=(by simp [go_sem,d0]);have a1:(Z.setCell ⟨G,0,none⟩ (Value.slice X (M.length+1) A)).cell? ⟨G,1,none⟩=some (Value.slice ra S.length O):=(by simp [go_sem,d1]);have b0:(Z.setCell ⟨G,0,none⟩ (Value.slice X (M.length+1) A)).frozen? ⟨G,0,none⟩=false:=(by simpa using e0);have b1:(Z.setCell ⟨G,0,none⟩ (Value.slice X (M.length+1) A)).frozen? ⟨G,1,none⟩=false:=(by simpa using e1);have x0:=D.cell (a:=⟨G,0,none⟩) (dD _ a0) Y;have x1:=D.cell (a:=⟨G,1,none⟩) (dD _ a1) Y;have y0:w2.frozen? ⟨G,0,none⟩=false:=(World.frozen?_of_block (D.block G (by simp;omega) Y)).trans (dM _ a0 b0);have y1:w2.frozen? ⟨G,1,none⟩=false:=(World.frozen?_of_block (D.block G (by simp;omega) Y)).trans (dM _ a1 b1);have HA:Hid ((Z.setCell ⟨G,0,none⟩ (Value.slice X (M.length+1) A)).ownsRow B 62 1 (Value.slice X (M.length+1) A) (M.length+1) (M++[.iface t u])):=cP a4 _ _ c4;clear a0 a1 b0 b1 d0 d1 e0 e1 c0 c1 f0 f1;go_wp2
 go_returns
 have N:=HS.out;have hX:=HX.out;have h8:=D.size;simp only [World.size_alloc,World.size_setCell] at h8
 have a6:(Value.slice ua (S.length+1) J).ownBlock=(Value.slice ra S.length O).ownBlock\/(Value.slice ua (S.length+1) J).ownBlock=some (Z.heap.size+1):=by
  rcases d2 with h | h
  ·exact .inl h
  ·exact .inr (h.trans (by simp))
 have f4:(Value.slice ua (S.length+1) J).ownBlock≠some G:=by
  intro e;rcases a6 with h | h
  ·exact c7 (by rw [<- h];exact e)
  ·rw [e] at h;simp at h;omega
 have f3:∀ g,(Value.slice X (M.length+1) A).ownBlock=some g->g<Z.heap.size:=fun g h=>(World.ownsRow.lt a4 g h).2
 have f7:∀ g,(Value.slice X (M.length+1) A).ownBlock=some g->(Value.slice ua (S.length+1) J).ownBlock≠some g:=by
  intro g h1 h2;rcases a6 with h | h
  ·exact d3 g h1 (by rw [<- h];exact h2)
  ·rw [h2] at h;simp at h;have:=f3 g h1;omega
 have g3:Below B w (w2.setCell ⟨G,1,none⟩ (Value.slice ua (S.length+1) J)):=
  (((((((Below.refl B w).alloc hB _).grown E (by simp;omega) (fun k hk=>(World.ownsRow.lt b3 k hk).1))).setCell N.big _).alloc (by simp;omega) _).grown D (by simp;omega) (fun k hk=>(World.ownsRow.lt b5 k hk).1)).setCell N.big _
 have fr:Fr B G (Value.slice na M.length b4) (Value.slice ra S.length O) (Value.slice X (M.length+1) A) (Value.slice ua (S.length+1) J) w (w2.setCell ⟨G,1,none⟩ (Value.slice ua (S.length+1) J)):=by
  refine ⟨g3,?_,?_⟩
  ·intro b hb a9;unfold Xof at a9;rw [heap_setCell_other _ _ _ _ (fun e=>a9 (.inl (by simpa using e)))];rw [D.block b (by simp;omega) (fun e=>a9 (.inr (.inr e.symm)))];rw [Below.heap_alloc _ _ _ (by simp;omega)];rw [heap_setCell_other _ _ _ _ (fun e=>a9 (.inl (by simpa using e)))];rw [E.block b (by simp;omega) (fun e=>a9 (.inr (.inl e.symm)))];exact Below.heap_alloc w _ _ hb
  ·intro b hb hx;unfold Xof at hx ⊢;rcases hx with h | h | h
   ·exact .inl h
   ·rcases a7 with h2 | h2
    ·exact .inr (.inl (by rw [<- h2];exact h))
    ·rw [h] at h2;simp at h2;omega
   ·rcases a6 with h2 | h2
    ·exact .inr (.inr (by rw [<- h2];exact h))
    ·rw [h] at h2;simp at h2;omega
 have c2:=E.cell (a:=⟨G,2,none⟩) (dD _ N.c2) U;have f2:Z.frozen? ⟨G,2,none⟩=false:=(World.frozen?_of_block (E.block G (by simp;omega) U)).trans (dM _ N.c2 N.f2);have a2:(Z.setCell ⟨G,0,none⟩ (Value.slice X (M.length+1) A)).cell? ⟨G,2,none⟩=some (.int .i64 a8):=(by simp [go_sem,c2]);have b2:(Z.setCell ⟨G,0,none⟩ (Value.slice X (M.length+1) A)).frozen? ⟨G,2,none⟩=false:=(by simpa using f2);have x2:=D.cell (a:=⟨G,2,none⟩) (dD _ a2) Y;have y2:w2.frozen? ⟨G,2,none⟩=false:=(World.frozen?_of_block (D.block G (by simp;omega) Y)).trans (dM _ a2 b2);refine ⟨rfl,Value.slice X (M.length+1) A,Value.slice ua (S.length+1) J,⟨N.big,by simp [go_sem,x0],by simp [go_sem,y0],by simp [go_sem,x1],by simp [go_sem,y1],by simp [go_sem,x2],by simp [go_sem,y2],?_,?_,f4,c4,f7,?_,?_,?_⟩,fr⟩
 ·have h1:=cP (World.ownsRow.kept (World.ownsRow.alloc HA.out _) D (by
   cases i2:(Value.slice X (M.length+1) A).ownBlock with
   | none=>exact .inl rfl
   | some g=>exact .inr fun e=>d3 g i2 e.symm)) ⟨G,1,none⟩ (Value.slice ua (S.length+1) J) c4
  rw [List.length_append];exact h1
 ·have:=cP b6 ⟨G,1,none⟩ (Value.slice ua (S.length+1) J) f4;rw [oR,List.length_append];simpa [iP,c5] using this
 ·have d4:=h0.out;rw [c5] at d4;exact lF.snoc fr.blk fr.mono N.once d4
 ·intro y hy;rcases List.mem_append.1 hy with h | h
  ·exact fr.rep (N.rep y h)
  ·simp at h;subst h;exact fr.rep hX
 ·intro y hy;rcases List.mem_append.1 hy with h | h
  ·exact fr.post (N.rep y h) (N.post y h)
  ·simp at h;subst h;exact fr.post hX HP.out
theorem xB (h:List Mk) (x:Mk):(iP (h++[x]))[h.length*2]?=some x.v/\(iP (h++[x]))[h.length*2+1]?=some (.int .i64 x.n):=by
 rw [oR];constructor
 ·rw [List.getElem?_append_right (by rw [kE];omega),kE];simp [iP]
 ·rw [List.getElem?_append_right (by rw [kE];omega),kE];simp [iP]
theorem aBU (B:Nat) (w:World) (J:Nat) (nv rv:Value) (D:List Mk) (Z:List Value) (G:Int) (x:Mk) (A:Bst B w J nv rv (D++[x]) Z G) (hB:B<=w.heap.size) (hl:D.length<=1048576) :
  Calls prog 142 #[.pointer (some ⟨J,0,none⟩)] w fun e w'=>e=.returned (.agg #[x.v,.int .i64 x.n])/\∃ Y,Bst B w' J nv Y D Z G/\Fr B J nv rv nv Y w w':=by
 obtain ⟨t,u,X⟩:=(A.rep x (by simp)).form;rcases A.row.2 with ⟨_,h0⟩ | ⟨g,cap,c6,b1,a7,hg,b2,a9,a8,N⟩
 ·simp at h0
 subst b1;have E:=A.row;have m0:=World.ownsRow.cellAt E (D.length*2) (by simp<;>omega);have m1:=World.ownsRow.cellAt E (D.length*2+1) (by simp<;>omega);rw [(xB D x).1,X] at m0;rw [(xB D x).2] at m1;have c1:=A.c1;have f1:=A.f1;have d0:=A.lt;have HS:Hid (Bst B w J nv (.slice (some ⟨g,0,none⟩) (D++[x]).length cap) (D++[x]) Z G):=A;have U:g≠J:=fun e=>A.ap (by rw [e];rfl);have c8:=(Array.getElem?_eq_some_iff.1 hg).1;have a6:(D++[x]).length=D.length+1:=(by simp);rw [a6] at c1 b2;unfold maxLen at a9;have M:=aB8 E (m:=D.length) (by simp);clear A E hg a8 N a7;rw [X]
 go_enter func142,ntmps142
 go_wp2
 go_returns
 have A:=HS.out;have S:Below B w (w.setCell ⟨J,1,none⟩ (.slice (some ⟨g,0,none⟩) D.length cap)):=(Below.refl B w).setCell A.big _
 have O:Fr B J nv (.slice (some ⟨g,0,none⟩) (D++[x]).length cap) nv (.slice (some ⟨g,0,none⟩) D.length cap) w (w.setCell ⟨J,1,none⟩ (.slice (some ⟨g,0,none⟩) D.length cap)):=by
  refine ⟨S,?_,fun _ _ h=>h⟩;intro b hb b0;exact heap_setCell_other _ _ _ _ (fun e=>b0 (.inl (by simpa using e)))
 have a5:Bst B (w.setCell ⟨J,1,none⟩ (.slice (some ⟨g,0,none⟩) D.length cap)) J nv (.slice (some ⟨g,0,none⟩) D.length cap) D Z G:=by
  refine ⟨A.big,?_,by simpa using A.f0,World.cell?_setCell_same' _ _ _ (by rw [c1];rfl),by simpa using f1,?_,by simpa using A.f2,cP A.nrow _ _ A.nap,?_,by simpa [Value.ownBlock] using U,A.nap,A.nr,A.once.turn O.blk O.mono,fun y hy=>O.rep (A.rep y (by simp [hy])),fun y hy=>O.post (A.rep y (by simp [hy])) (A.post y (by simp [hy]))⟩
  ·have:=A.c0;simp [go_sem,this]
  ·have:=A.c2;simp [go_sem,this]
  ·refine cP ?_ _ _ (by simpa [Value.ownBlock] using U);have e1:(iP (D++[x])).take (D.length*2)=iP D:=(by rw [oR,<- kE D];exact List.take_left);rw [e1] at M;exact M
 have gg:∀ (W:World) (o1 o2:Obj),W.grownBy ((W.alloc o1).alloc o2) none:=fun _ _ _=>aA gWA gWA;exact ⟨rfl,_,a5.K (gg _ _ _),O.grown (gg _ _ _) hB⟩
end Go.Proofs.YtmfehflibkokbaaGreatDoor
