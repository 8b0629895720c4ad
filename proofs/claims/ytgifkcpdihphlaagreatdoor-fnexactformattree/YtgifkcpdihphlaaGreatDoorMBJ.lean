import Derived.Test.YtgifkcpdihphlaaGreatDoorMBI
set_option maxHeartbeats 16000000
set_option maxRecDepth 100000
namespace Go.Proofs.YtgifkcpdihphlaaGreatDoor
open Tryz
open Go.RowKit
theorem bJ {p:Prop} (h:p):Hid p:=h
def uA (B:Nat) (w:World) (l:List Value) (f:Value->Option Value) (F:Tr->Value):Prop:=∀ v∈l,∀ T,Rep (fun _=>False) B w v T->f v=some (F T)
theorem aDU {B:Nat} {w:World} {l:List Value} {f:Value->Option Value} {F:Tr->Value} (L:∀ T j,Sim T j->F T=F j) (J:lH (fun _=>False) w l) {k:Nat} {v:Value} {j:Tr} (hv:l[k]?=some v)
  (E:Rep (fun _=>False) B w v j) (h:uA B w (l.take k) f F):uA B w (l.take (k+1)) (fun k'=>if kEq v k' then some (F j) else f k') F:=by
 intro y D T G;have u:v∈l:=List.mem_of_getElem? hv;have H:y∈l:=List.mem_of_mem_take D;dsimp only
 by_cases e:v=y
 ·subst e;rw [if_pos (kEq_self (jG J u E)),L _ _ (vP E G)]
 ·have M:kEq v y=false:=(by rw [Bool.eq_false_iff];exact fun h=>e ((nP (jG J u E) (jG J H G)).1 h));rw [if_neg (by rw [M];simp)];refine h y ?_ T G;rw [List.take_add_one,hv] at D;rcases List.mem_append.1 D with A | A
  ·exact A
  ·simp at A;exact absurd A.symm e
def fwV (T:Tr):Value:=.int .i64 (flatW T)
theorem aFZ (T j:Tr) (h:Sim T j):fwV T=fwV j:=by unfold fwV;rw [h.flatW]
theorem aDn (a b:Int) (w:World) (G : -1<=a/\a<=1000000) (D : -1<=b/\b<=1000000) :
  Calls prog 128 #[.int .i64 a,.int .i64 b] w fun e w'=>e=.returned (.int .i64 (if a = -1\/b = -1 then -1 else a+b))/\w=w':=by
 obtain ⟨R,h⟩:∃ R,R=if a = -1\/b = -1 then -1 else a+b:=⟨_,rfl⟩
 rw [<- h]
 by_cases j:a = -1
 ·have u:Hid (R = -1):=(by unfold Hid;rw [h,if_pos (.inl j)]);clear h;subst j
  go_enter func128,ntmps128
  go_wp2;go_ret;exact ⟨by rw [u.out];rfl,rfl⟩
 ·have E:(a == -1)=false:=by simpa using j
  by_cases y:b = -1
  ·have u:Hid (R = -1):=(by unfold Hid;rw [h,if_pos (.inr y)]);clear h j;subst y
   go_enter func128,ntmps128
   go_wp2;go_ret;exact ⟨by rw [u.out];rfl,rfl⟩
  ·have A:(b == -1)=false:=(by simpa using y);have u:Hid (R=a+b):=(by unfold Hid;rw [h,if_neg (by omega)]);clear j y h
   go_enter func128,ntmps128
   go_wp2;go_ret;exact ⟨by rw [u.out];go_num,rfl⟩
theorem aAa (B:Nat) (nv u0:Value) (T0:Tr) (l:List Value) (w:World) (b1:w.ownsRow B 153 1 nv l.length l) (hr:Rep (fun _=>False) B w u0 T0) (hp:cV w u0 T0 l) (ho:lH (fun _=>False) w l) (l4:sz T0<=140000) :
  Calls prog 91 #[nv] w fun e w'=>∃ f n,e=.returned (.map (some w.heap.size))/\MapIs w' w.heap.size f n/\uA B w l f fwV/\w.grownBy w' none:=by
 obtain ⟨a,cap,j0,k4,j1⟩:=bD b1;subst j0;unfold maxLen at j1;have HR:Hid (w.ownsRow B 153 1 (.slice a l.length cap) l.length l):=b1;have i6:Hid (Rep (fun _=>False) B w u0 T0):=hr;have g7:Hid (cV w u0 T0 l):=hp;have b2:Hid (lH (fun _=>False) w l):=ho;clear b1 hr hp ho
 have l3:(Instr.makeMap 101 (some (.int .i64 (l.length:Int)))).run prog w=.ok (.map (some w.heap.size)) (w.alloc (.map #[] 0)):=by
  simp [Instr.makeMap,run_underlying underlying101,asInt,asIntOf]
 go_enter func91,ntmps91
 go_wp2
 go_loopw [19] (fun i wr=>∃ (k:Nat) (f:Value->Option Value) (n:Nat),k<=l.length/\i=.int .i64 k/\MapIs wr w.heap.size f n/\Hid (uA B w (l.take k) f fwV)/\w.grownBy wr none) (fun i _=>l.length - (intOf i).toNat)
 case atStart=>exact ⟨0,_,0,Nat.zero_le _,rfl,mapIs_made w,(by intro v hv;simp at hv),gWA⟩
 case round=>
  obtain ⟨k,f,n,hk,rfl,hM,Y,J⟩:=hrel
  by_cases i8:k<l.length
  ·obtain ⟨v,hv⟩:∃ v,l[k]?=some v:=⟨_,List.getElem?_eq_getElem i8⟩;obtain ⟨T,he,H,d4⟩:=kX i6.out g7.out k v hv;have h6:v∈l:=List.mem_of_getElem? hv;have c8:=(jG b2.out h6 H).K J;have D:=bJ (aDU aFZ b2.out hv H Y.out);have k7:=lJ fZ T;rcases HR.out.2 with ⟨_,h0⟩ | ⟨g,cp,k5,i7,k6,i2,k1,l5,g3,g6⟩
   ·omega
   cases i7;have d2:=World.ownsRow.cellAt HR.out k (by omega);rw [hv] at d2;have m0:=J.cell d2 (by simp);clear d2;have l1:=J.size;have j8:=hM.lt;have HM:=bJ hM;have HK:=bJ c8;have HG:=bJ J;have b3:∀ w1,w.grownBy w1 none->∀ w2,w1.grownBy w2 (some w.heap.size)->w.grownBy w2 none:=fun w1 S w2 M=>aU S M (fun j e=>by cases e;exact Nat.le_refl _);have A:=bJ b3;clear i2 g3 g6 hM c8 b3;cases T with
   | leaf p=>
     have d7:=H;simp only [Rep] at d7;rcases d7 with ⟨S,M⟩ | ⟨S,M⟩ | ⟨S,M⟩ | ⟨S,M⟩ | ⟨S,M⟩ | ⟨S,b,tv,M,_,h4,h5,_⟩
     ·have U:Hid (fwV (.leaf p)=.int .i64 (0)):=(by unfold Hid fwV;simp [flatW,S]);obtain ⟨f1,f2,f3,f4,f5,f6,f7,f8,f9,O⟩:=oQ;subst M;clear H he Y hv J
      go_wp2_with (at_mapUpdate;refine wpList_mapUpdate_node _ rfl _ _ _ 101 rfl 3 underlying101 _ n f rfl HM.out _ _ rfl rfl HK.out ?_;intro w1 E G)
      go_roundw
      case rel=>exact ⟨k+1,_,_,by omega,by go_num,E,by rw [<- U.out];exact D.out,A.out _ HG.out _ G⟩
      case measure=>simp [intOf];omega
     ·have U:Hid (fwV (.leaf p)=.int .i64 (1)):=(by unfold Hid fwV;simp [flatW,S]);obtain ⟨f1,f2,f3,f4,f5,f6,f7,f8,f9,O⟩:=rK;subst M;clear H he Y hv J;have gA:wr.grownBy (wr.alloc (.cells #[] 183)) none:=gWA;have d8:=HM.out.K gA;have i4:=bJ d8;have g9:=bJ (HK.out.K gA);have g5:=bJ (aA HG.out gA);clear d8 gA
      go_wp2_with (at_mapUpdate;refine wpList_mapUpdate_node _ rfl _ _ _ 101 rfl 3 underlying101 _ n f rfl i4.out _ _ rfl rfl g9.out ?_;intro w1 E G)
      go_roundw
      case rel=>exact ⟨k+1,_,_,by omega,by go_num,E,by rw [<- U.out];exact D.out,A.out _ g5.out _ G⟩
      case measure=>simp [intOf];omega
     ·have U:Hid (fwV (.leaf p)=.int .i64 (0)):=(by unfold Hid fwV;simp [flatW,S]);obtain ⟨f1,f2,f3,f4,f5,f6,f7,f8,f9,O⟩:=rR;subst M;clear H he Y hv J
      go_wp2_with (at_mapUpdate;refine wpList_mapUpdate_node _ rfl _ _ _ 101 rfl 3 underlying101 _ n f rfl HM.out _ _ rfl rfl HK.out ?_;intro w1 E G)
      go_roundw
      case rel=>exact ⟨k+1,_,_,by omega,by go_num,E,by rw [<- U.out];exact D.out,A.out _ HG.out _ G⟩
      case measure=>simp [intOf];omega
     ·have U:Hid (fwV (.leaf p)=.int .i64 (-1)):=(by unfold Hid fwV;simp [flatW,S]);obtain ⟨f1,f2,f3,f4,f5,f6,f7,f8,f9,O⟩:=vV;subst M;clear H he Y hv J
      go_wp2_with (at_mapUpdate;refine wpList_mapUpdate_node _ rfl _ _ _ 101 rfl 3 underlying101 _ n f rfl HM.out _ _ rfl rfl HK.out ?_;intro w1 E G)
      go_roundw
      case rel=>exact ⟨k+1,_,_,by omega,by go_num,E,by rw [<- U.out];exact D.out,A.out _ HG.out _ G⟩
      case measure=>simp [intOf];omega
     ·have U:Hid (fwV (.leaf p)=.int .i64 (-1)):=(by unfold Hid fwV;simp [flatW,S]);obtain ⟨f1,f2,f3,f4,f5,f6,f7,f8,f9,O⟩:=yS;subst M;clear H he Y hv J
      go_wp2_with (at_mapUpdate;refine wpList_mapUpdate_node _ rfl _ _ _ 101 rfl 3 underlying101 _ n f rfl HM.out _ _ rfl rfl HK.out ?_;intro w1 E G)
      go_roundw
      case rel=>exact ⟨k+1,_,_,by omega,by go_num,E,by rw [<- U.out];exact D.out,A.out _ HG.out _ G⟩
      case measure=>simp [intOf];omega
     ·have U:Hid (fwV (.leaf p)=.int .i64 (aH p.t)):=(by unfold Hid fwV;simp [flatW,S]);obtain ⟨f1,f2,f3,f4,f5,f6,f7,f8,f9,O⟩:=qS (.pointer (some ⟨b,0,none⟩));have c1:wr.cell? ⟨b,1,none⟩=some (.int .i64 (aH p.t)):=J.cell (by simp [World.cell?,h5]) (by simp);subst M;clear H he Y hv J h5
      go_wp2_with (at_mapUpdate;refine wpList_mapUpdate_node _ rfl _ _ _ 101 rfl 3 underlying101 _ n f rfl HM.out _ _ rfl rfl HK.out ?_;intro w1 E G)
      go_roundw
      case rel=>exact ⟨k+1,_,_,by omega,by go_num,E,by rw [<- U.out];exact D.out,A.out _ HG.out _ G⟩
      case measure=>simp [intOf];omega
   | un p x=>
     obtain ⟨b,u,i5,c0,L,N,c9⟩:=he;have i3:=J.cell c0 (by simp);have a5:u∈l:=List.mem_of_mem_take N
     have b0:(Instr.lookup 101 (.map (some w.heap.size)) u false).run prog wr=.ok (.int .i64 (flatW x)) wr:=by
      have:=HM.out.run_lookup (z:=.int .i64 0) underlying101 rfl ((jG b2.out a5 L).K J);rw [Y.out u N x L] at this;exact this
     have i9:=lJ fZ x;have U:Hid (fwV (.un p x)=.int .i64 (flatW x)):=rfl;obtain ⟨tu,yu,Z⟩:=L.form;subst Z;simp only [sz] at d4;generalize flatW x=fx at *;rcases c9 with ⟨S,M⟩ | ⟨S,M,h3⟩
     ·obtain ⟨f1,f2,f3,f4,f5,f6,f7,f8,f9,O⟩:=pE (.pointer (some ⟨b,0,none⟩));subst M;clear H Y hv J L c0 a5 N
      go_wp2_with (at_mapUpdate;refine wpList_mapUpdate_node _ rfl _ _ _ 101 rfl 3 underlying101 _ n f rfl HM.out _ _ rfl rfl HK.out ?_;intro w1 E G)
      go_roundw
      case rel=>exact ⟨k+1,_,_,by omega,by go_num,E,by rw [<- U.out];exact D.out,A.out _ HG.out _ G⟩
      case measure=>simp [intOf];omega
     ·obtain ⟨f1,f2,f3,f4,f5,f6,f7,f8,f9,O⟩:=rA (.pointer (some ⟨b,0,none⟩));subst M;clear H Y hv J L c0 a5 N h3
      go_wp2_with (at_mapUpdate;refine wpList_mapUpdate_node _ rfl _ _ _ 101 rfl 3 underlying101 _ n f rfl HM.out _ _ rfl rfl HK.out ?_;intro w1 E G)
      go_roundw
      case rel=>exact ⟨k+1,_,_,by omega,by go_num,E,by rw [<- U.out];exact D.out,A.out _ HG.out _ G⟩
      case measure=>simp [intOf];omega
   | bin p x y=>
     obtain ⟨b,u,u',i5,c0,c1,L,X,N,a6,c9⟩:=he;have i3:=J.cell c0 (by simp);have k8:=J.cell c1 (by simp);have a5:u∈l:=List.mem_of_mem_take N;have b4:u'∈l:=List.mem_of_mem_take a6
     have b0:∀ W,w.grownBy W none->MapIs W w.heap.size f n->(Instr.lookup 101 (.map (some w.heap.size)) u false).run prog W=.ok (.int .i64 (flatW x)) W:=by
      intro W hW d0;have:=d0.run_lookup (z:=.int .i64 0) underlying101 rfl ((jG b2.out a5 L).K hW);rw [Y.out u N x L] at this;exact this
     have a7:∀ W,w.grownBy W none->MapIs W w.heap.size f n->(Instr.lookup 101 (.map (some w.heap.size)) u' false).run prog W=.ok (.int .i64 (flatW y)) W:=by
      intro W hW d0;have:=d0.run_lookup (z:=.int .i64 0) underlying101 rfl ((jG b2.out b4 X).K hW);rw [Y.out u' a6 y X] at this;exact this
     have hA:=b0 wr J HM.out;have i1:=a7 wr J HM.out;have a9:∀ q,wr.grownBy (wr.drewN q) none:=fun q=>dT (World.grownBy.refl _ _) q;have d1:=bJ a9;have hD:∀ q,_:=fun q=>b0 (wr.drewN q) (aA J (a9 q)) (HM.out.K (a9 q));have d6:∀ q,_:=fun q=>a7 (wr.drewN q) (aA J (a9 q)) (HM.out.K (a9 q));clear a9;have i9:=lJ fZ x;have l0:=lJ fZ y;obtain ⟨tu,yu,Z⟩:=L.form;obtain ⟨k9,k2,c5⟩:=X.form;subst Z c5;simp only [sz] at d4;rcases c9 with ⟨S,M⟩ | ⟨S,M⟩
     ·have U:Hid (fwV (.bin p x y)=.int .i64 (if flatW x = -1\/flatW y = -1 then -1 else flatW x+flatW y)):=(by unfold Hid fwV;simp only [flatW];rw [if_pos S]);obtain ⟨f1,f2,f3,f4,f5,f6,f7,f8,f9,O⟩:=vK (.pointer (some ⟨b,0,none⟩))
      have hS:∀ q,Calls prog 128 #[.int .i64 (flatW x),.int .i64 (flatW y)] (wr.drewN q) fun e w'=>e=.returned (.int .i64 (if flatW x = -1\/flatW y = -1 then -1 else flatW x+flatW y))/\w'=wr.drewN q:=
       fun q=>(aDn (flatW x) (flatW y) _ (by omega) (by omega)).mono fun e w' h=>⟨h.1,h.2.symm⟩
      generalize (if flatW x = -1\/flatW y = -1 then -1 else flatW x+flatW y)=fs at *;generalize flatW x=fx at *;generalize flatW y=fy at *;subst M;clear H Y hv J L X c0 c1 a5 N b4 a6 b0 a7
      go_wp2_with fail
      go_quiet ((go_at_call 128;refine Calls.quiet_of_same (hS _)))
      have h9:=bJ (HM.out.K (d1.out nq));have g8:=bJ (HK.out.K (d1.out nq));clear hD d6 hA i1 hS
      go_wp2_with (at_mapUpdate;refine wpList_mapUpdate_node _ rfl _ _ _ 101 rfl 3 underlying101 _ n f rfl h9.out _ _ rfl rfl g8.out ?_;intro w1 E G)
      go_roundw
      case rel=>exact ⟨k+1,_,_,by omega,by go_num,E,by rw [<- U.out];exact D.out,A.out _ (aA HG.out (d1.out nq)) _ G⟩
      case measure=>simp [intOf];omega
     ·have U:Hid (fwV (.bin p x y)=.int .i64 (flatW y)):=(by unfold Hid fwV;simp only [flatW];rw [if_neg (by omega)]);obtain ⟨f1,f2,f3,f4,f5,f6,f7,f8,f9,O⟩:=vE (.pointer (some ⟨b,0,none⟩));generalize flatW x=fx at *;generalize flatW y=fy at *;subst M;clear H Y hv J L X c0 c1 a5 N b4 a6 b0 a7 hD d6 hA
      go_wp2_with (at_mapUpdate;refine wpList_mapUpdate_node _ rfl _ _ _ 101 rfl 3 underlying101 _ n f rfl HM.out _ _ rfl rfl HK.out ?_;intro w1 E G)
      go_roundw
      case rel=>exact ⟨k+1,_,_,by omega,by go_num,E,by rw [<- U.out];exact D.out,A.out _ HG.out _ G⟩
      case measure=>simp [intOf];omega
  ·have i0:k=l.length:=(by omega);have g2:Hid (uA B w l f fwV):=(by have:=Y.out;rw [i0,List.take_length] at this;exact this);clear Y;go_wp2;go_ret;exact ⟨f,n,rfl,hM,g2.out,J⟩
end Go.Proofs.YtgifkcpdihphlaaGreatDoor
