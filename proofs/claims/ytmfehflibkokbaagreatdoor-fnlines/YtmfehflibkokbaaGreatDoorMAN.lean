import Derived.Deep.RegionWith
import Derived.Test.YtmfehflibkokbaaGreatDoorMAM
set_option maxHeartbeats 16000000
set_option maxRecDepth 100000
namespace Go.Proofs.YtmfehflibkokbaaGreatDoor
open Go.Proofs.Tryz
open Go.RowKit
theorem bH {p:Prop} (h:p):Hid p:=h
def tH (B:Nat) (w:World) (l:List Value) (f:Value->Option Value) (F:Tr->Value):Prop:=∀ v∈l,∀ T,Rep (fun _=>False) B w v T->f v=some (F T)
theorem aC9 {B:Nat} {w:World} {l:List Value} {f:Value->Option Value} {F:Tr->Value} (U:∀ T y,Sim T y->F T=F y) (J:lF (fun _=>False) w l) {k:Nat} {v:Value} {y:Tr} (hv:l[k]?=some v)
  (N:Rep (fun _=>False) B w v y) (h:tH B w (l.take k) f F):tH B w (l.take (k+1)) (fun k'=>if kEq v k' then some (F y) else f k') F:=by
 intro E O T G;have A:v∈l:=List.mem_of_getElem? hv;have M:E∈l:=List.mem_of_mem_take O;dsimp only
 by_cases e:v=E
 ·subst e;rw [if_pos (kEq_self (iZ J A N)),U _ _ (uI N G)]
 ·have S:kEq v E=false:=(by rw [Bool.eq_false_iff];exact fun h=>e ((nC (iZ J A N) (iZ J M G)).1 h));rw [if_neg (by rw [S];simp)];refine h E ?_ T G;rw [List.take_add_one,hv] at O;rcases List.mem_append.1 O with D | D
  ·exact D
  ·simp at D;exact absurd D.symm e
def fwV (T:Tr):Value:=.int .i64 (flatW T)
theorem aFm (T y:Tr) (h:Sim T y):fwV T=fwV y:=by unfold fwV;rw [h.flatW]
theorem aBK (a b:Int) (w:World) (J : -1<=a/\a<=1000000) (M : -1<=b/\b<=1000000) :
  Calls prog 116 #[.int .i64 a,.int .i64 b] w fun e w'=>e=.returned (.int .i64 (if a = -1\/b = -1 then -1 else a+b))/\w=w':=by
 obtain ⟨R,h⟩:∃ R,R=if a = -1\/b = -1 then -1 else a+b:=⟨_,rfl⟩
 rw [<- h]
 by_cases y:a = -1
 ·have A:Hid (R = -1):=(by unfold Hid;rw [h,if_pos (.inl y)]);clear h;subst y
  go_enter func116,ntmps116
  go_wp2;go_ret;exact ⟨by rw [A.out];rfl,rfl⟩
 ·have E:(a == -1)=false:=by simpa using y
  by_cases D:b = -1
  ·have A:Hid (R = -1):=(by unfold Hid;rw [h,if_pos (.inr D)]);clear h y;subst D
   go_enter func116,ntmps116
   go_wp2;go_ret;exact ⟨by rw [A.out];rfl,rfl⟩
  ·have G:(b == -1)=false:=(by simpa using D);have A:Hid (R=a+b):=(by unfold Hid;rw [h,if_neg (by omega)]);clear y D h
   go_enter func116,ntmps116
   go_wp2;go_ret;exact ⟨by rw [A.out];go_num,rfl⟩
theorem zM (B:Nat) (nv u0:Value) (T0:Tr) (l:List Value) (w:World) (b6:w.ownsRow B 62 1 nv l.length l) (hr:Rep (fun _=>False) B w u0 T0) (hp:cS w u0 T0 l) (ho:lF (fun _=>False) w l) (l7:sz T0<=140000) :
  Calls prog 80 #[nv] w fun e w'=>∃ f n,e=.returned (.map (some w.heap.size))/\MapIs w' w.heap.size f n/\tH B w l f fwV/\w.grownBy w' none:=by
 obtain ⟨a,cap,g4,k8,h6⟩:=aU b6;subst g4;unfold maxLen at h6;have HR:Hid (w.ownsRow B 62 1 (.slice a l.length cap) l.length l):=b6;have i8:Hid (Rep (fun _=>False) B w u0 T0):=hr;have h7:Hid (cS w u0 T0 l):=hp;have b3:Hid (lF (fun _=>False) w l):=ho;clear b6 hr hp ho
 have k3:(Instr.makeMap 100 (some (.int .i64 (l.length:Int)))).run prog w=.ok (.map (some w.heap.size)) (w.alloc (.map #[] 0)):=by
  simp [Instr.makeMap,run_underlying underlying100,asInt,asIntOf]
 go_enter func80,ntmps80
 go_wp2
 go_loopw [19] (fun i wr=>∃ (k:Nat) (f:Value->Option Value) (n:Nat),k<=l.length/\i=.int .i64 k/\MapIs wr w.heap.size f n/\Hid (tH B w (l.take k) f fwV)/\w.grownBy wr none) (fun i _=>l.length - (intOf i).toNat)
 case atStart=>exact ⟨0,_,0,Nat.zero_le _,rfl,mapIs_made w,(by intro v hv;simp at hv),gWA⟩
 case round=>
  obtain ⟨k,f,n,hk,rfl,hM,HN,M⟩:=hrel
  by_cases i3:k<l.length
  ·obtain ⟨v,hv⟩:∃ v,l[k]?=some v:=⟨_,List.getElem?_eq_getElem i3⟩;obtain ⟨T,he,J,d8⟩:=kD i8.out h7.out k v hv;have i9:v∈l:=List.mem_of_getElem? hv;have c9:=(iZ b3.out i9 J).K M;have A:=bH (aC9 aFm b3.out hv J HN.out);have l3:=kX fP T;rcases HR.out.2 with ⟨_,h0⟩ | ⟨g,cp,k7,g3,k5,i5,j6,k6,i1,g9⟩
   ·omega
   cases g3;have d3:=World.ownsRow.cellAt HR.out k (by omega);rw [hv] at d3;have m0:=M.cell d3 (by simp);clear d3;have l0:=M.size;have j5:=hM.lt;have HM:=bH hM;have HK:=bH c9;have HG:=bH M;have b2:∀ w1,w.grownBy w1 none->∀ w2,w1.grownBy w2 (some w.heap.size)->w.grownBy w2 none:=fun w1 X w2 O=>bA X O (fun j e=>by cases e;exact Nat.le_refl _);have D:=bH b2;clear i5 i1 g9 hM c9 b2;cases T with
   | leaf p=>
     have d7:=J;simp only [Rep] at d7;rcases d7 with ⟨X,O⟩ | ⟨X,O⟩ | ⟨X,O⟩ | ⟨X,O⟩ | ⟨X,O⟩ | ⟨X,b,tv,O,_,h4,h5,_⟩
     ·have Y:Hid (fwV (.leaf p)=.int .i64 (0)):=(by unfold Hid fwV;simp [flatW,X]);obtain ⟨f1,f2,f3,f4,f5,f6,f7,f8,f9,U⟩:=nN;subst O;clear J he HN hv M
      go_wp2_with (at_mapUpdate;refine wpList_mapUpdate_node _ rfl _ _ _ 100 rfl 3 underlying100 _ n f rfl HM.out _ _ rfl rfl HK.out ?_;intro w1 E G)
      go_roundw
      case rel=>exact ⟨k+1,_,_,by omega,by go_num,E,by rw [<- Y.out];exact A.out,D.out _ HG.out _ G⟩
      case measure=>simp [intOf];omega
     ·have Y:Hid (fwV (.leaf p)=.int .i64 (1)):=(by unfold Hid fwV;simp [flatW,X]);obtain ⟨f1,f2,f3,f4,f5,f6,f7,f8,f9,U⟩:=qN;subst O;clear J he HN hv M;have gA:wr.grownBy (wr.alloc (.cells #[] 73)) none:=gWA;have d9:=HM.out.K gA;have i0:=bH d9;have i4:=bH (HK.out.K gA);have g6:=bH (aA HG.out gA);clear d9 gA
      go_wp2_with (at_mapUpdate;refine wpList_mapUpdate_node _ rfl _ _ _ 100 rfl 3 underlying100 _ n f rfl i0.out _ _ rfl rfl i4.out ?_;intro w1 E G)
      go_roundw
      case rel=>exact ⟨k+1,_,_,by omega,by go_num,E,by rw [<- Y.out];exact A.out,D.out _ g6.out _ G⟩
      case measure=>simp [intOf];omega
     ·have Y:Hid (fwV (.leaf p)=.int .i64 (0)):=(by unfold Hid fwV;simp [flatW,X]);obtain ⟨f1,f2,f3,f4,f5,f6,f7,f8,f9,U⟩:=qP;subst O;clear J he HN hv M
      go_wp2_with (at_mapUpdate;refine wpList_mapUpdate_node _ rfl _ _ _ 100 rfl 3 underlying100 _ n f rfl HM.out _ _ rfl rfl HK.out ?_;intro w1 E G)
      go_roundw
      case rel=>exact ⟨k+1,_,_,by omega,by go_num,E,by rw [<- Y.out];exact A.out,D.out _ HG.out _ G⟩
      case measure=>simp [intOf];omega
     ·have Y:Hid (fwV (.leaf p)=.int .i64 (-1)):=(by unfold Hid fwV;simp [flatW,X]);obtain ⟨f1,f2,f3,f4,f5,f6,f7,f8,f9,U⟩:=tY;subst O;clear J he HN hv M
      go_wp2_with (at_mapUpdate;refine wpList_mapUpdate_node _ rfl _ _ _ 100 rfl 3 underlying100 _ n f rfl HM.out _ _ rfl rfl HK.out ?_;intro w1 E G)
      go_roundw
      case rel=>exact ⟨k+1,_,_,by omega,by go_num,E,by rw [<- Y.out];exact A.out,D.out _ HG.out _ G⟩
      case measure=>simp [intOf];omega
     ·have Y:Hid (fwV (.leaf p)=.int .i64 (-1)):=(by unfold Hid fwV;simp [flatW,X]);obtain ⟨f1,f2,f3,f4,f5,f6,f7,f8,f9,U⟩:=xQ;subst O;clear J he HN hv M
      go_wp2_with (at_mapUpdate;refine wpList_mapUpdate_node _ rfl _ _ _ 100 rfl 3 underlying100 _ n f rfl HM.out _ _ rfl rfl HK.out ?_;intro w1 E G)
      go_roundw
      case rel=>exact ⟨k+1,_,_,by omega,by go_num,E,by rw [<- Y.out];exact A.out,D.out _ HG.out _ G⟩
      case measure=>simp [intOf];omega
     ·have Y:Hid (fwV (.leaf p)=.int .i64 (aI p.t)):=(by unfold Hid fwV;simp [flatW,X]);obtain ⟨f1,f2,f3,f4,f5,f6,f7,f8,f9,U⟩:=qG (.pointer (some ⟨b,0,none⟩));have c1:wr.cell? ⟨b,1,none⟩=some (.int .i64 (aI p.t)):=M.cell (by simp [World.cell?,h5]) (by simp);subst O;clear J he HN hv M h5
      go_wp2_with (at_mapUpdate;refine wpList_mapUpdate_node _ rfl _ _ _ 100 rfl 3 underlying100 _ n f rfl HM.out _ _ rfl rfl HK.out ?_;intro w1 E G)
      go_roundw
      case rel=>exact ⟨k+1,_,_,by omega,by go_num,E,by rw [<- Y.out];exact A.out,D.out _ HG.out _ G⟩
      case measure=>simp [intOf];omega
   | un p x=>
     obtain ⟨b,u,g8,c0,N,S,d1⟩:=he;have g5:=M.cell c0 (by simp);have a5:u∈l:=List.mem_of_mem_take S
     have b4:(Instr.lookup 100 (.map (some w.heap.size)) u false).run prog wr=.ok (.int .i64 (flatW x)) wr:=by
      have:=HM.out.run_lookup (z:=.int .i64 0) underlying100 rfl ((iZ b3.out a5 N).K M);rw [HN.out u S x N] at this;exact this
     have j0:=kX fP x;have Y:Hid (fwV (.un p x)=.int .i64 (flatW x)):=rfl;obtain ⟨tu,yu,a6⟩:=N.form;subst a6;simp only [sz] at d8;generalize flatW x=fx at *;rcases d1 with ⟨X,O⟩ | ⟨X,O,h3⟩
     ·obtain ⟨f1,f2,f3,f4,f5,f6,f7,f8,f9,U⟩:=nS (.pointer (some ⟨b,0,none⟩));subst O;clear J HN hv M N c0 a5 S
      go_wp2_with (at_mapUpdate;refine wpList_mapUpdate_node _ rfl _ _ _ 100 rfl 3 underlying100 _ n f rfl HM.out _ _ rfl rfl HK.out ?_;intro w1 E G)
      go_roundw
      case rel=>exact ⟨k+1,_,_,by omega,by go_num,E,by rw [<- Y.out];exact A.out,D.out _ HG.out _ G⟩
      case measure=>simp [intOf];omega
     ·obtain ⟨f1,f2,f3,f4,f5,f6,f7,f8,f9,U⟩:=pW (.pointer (some ⟨b,0,none⟩));subst O;clear J HN hv M N c0 a5 S h3
      go_wp2_with (at_mapUpdate;refine wpList_mapUpdate_node _ rfl _ _ _ 100 rfl 3 underlying100 _ n f rfl HM.out _ _ rfl rfl HK.out ?_;intro w1 E G)
      go_roundw
      case rel=>exact ⟨k+1,_,_,by omega,by go_num,E,by rw [<- Y.out];exact A.out,D.out _ HG.out _ G⟩
      case measure=>simp [intOf];omega
   | bin p x y=>
     obtain ⟨b,u,u',g8,c0,c1,N,Z,S,a9,d1⟩:=he;have g5:=M.cell c0 (by simp);have l6:=M.cell c1 (by simp);have a5:u∈l:=List.mem_of_mem_take S;have b5:u'∈l:=List.mem_of_mem_take a9
     have b4:∀ W,w.grownBy W none->MapIs W w.heap.size f n->(Instr.lookup 100 (.map (some w.heap.size)) u false).run prog W=.ok (.int .i64 (flatW x)) W:=by
      intro W hW d2;have:=d2.run_lookup (z:=.int .i64 0) underlying100 rfl ((iZ b3.out a5 N).K hW);rw [HN.out u S x N] at this;exact this
     have a8:∀ W,w.grownBy W none->MapIs W w.heap.size f n->(Instr.lookup 100 (.map (some w.heap.size)) u' false).run prog W=.ok (.int .i64 (flatW y)) W:=by
      intro W hW d2;have:=d2.run_lookup (z:=.int .i64 0) underlying100 rfl ((iZ b3.out b5 Z).K hW);rw [HN.out u' a9 y Z] at this;exact this
     have hA:=b4 wr M HM.out;have g7:=a8 wr M HM.out;have b0:∀ q,wr.grownBy (wr.drewN q) none:=fun q=>cO (World.grownBy.refl _ _) q;have d4:=bH b0;have hD:∀ q,_:=fun q=>b4 (wr.drewN q) (aA M (b0 q)) (HM.out.K (b0 q));have d5:∀ q,_:=fun q=>a8 (wr.drewN q) (aA M (b0 q)) (HM.out.K (b0 q));clear b0;have j0:=kX fP x;have l4:=kX fP y;obtain ⟨tu,yu,a6⟩:=N.form;obtain ⟨k4,l2,c6⟩:=Z.form;subst a6 c6;simp only [sz] at d8;rcases d1 with ⟨X,O⟩ | ⟨X,O⟩
     ·have Y:Hid (fwV (.bin p x y)=.int .i64 (if flatW x = -1\/flatW y = -1 then -1 else flatW x+flatW y)):=(by unfold Hid fwV;simp only [flatW];rw [if_pos X]);obtain ⟨f1,f2,f3,f4,f5,f6,f7,f8,f9,U⟩:=vA (.pointer (some ⟨b,0,none⟩))
      have hS:∀ q,Calls prog 116 #[.int .i64 (flatW x),.int .i64 (flatW y)] (wr.drewN q) fun e w'=>e=.returned (.int .i64 (if flatW x = -1\/flatW y = -1 then -1 else flatW x+flatW y))/\w'=wr.drewN q:=
       fun q=>(aBK (flatW x) (flatW y) _ (by omega) (by omega)).mono fun e w' h=>⟨h.1,h.2.symm⟩
      generalize (if flatW x = -1\/flatW y = -1 then -1 else flatW x+flatW y)=fs at *;generalize flatW x=fx at *;generalize flatW y=fy at *;subst O;clear J HN hv M N Z c0 c1 a5 S b5 a9 b4 a8
      go_wp2_with fail
      go_quiet ((go_at_call 116;refine Calls.quiet_of_same (hS _)))
      have j1:=bH (HM.out.K (d4.out nq));have i6:=bH (HK.out.K (d4.out nq));clear hD d5 hA g7 hS
      go_wp2_with (at_mapUpdate;refine wpList_mapUpdate_node _ rfl _ _ _ 100 rfl 3 underlying100 _ n f rfl j1.out _ _ rfl rfl i6.out ?_;intro w1 E G)
      go_roundw
      case rel=>exact ⟨k+1,_,_,by omega,by go_num,E,by rw [<- Y.out];exact A.out,D.out _ (aA HG.out (d4.out nq)) _ G⟩
      case measure=>simp [intOf];omega
     ·have Y:Hid (fwV (.bin p x y)=.int .i64 (flatW y)):=(by unfold Hid fwV;simp only [flatW];rw [if_neg (by omega)]);obtain ⟨f1,f2,f3,f4,f5,f6,f7,f8,f9,U⟩:=tZ (.pointer (some ⟨b,0,none⟩));generalize flatW x=fx at *;generalize flatW y=fy at *;subst O;clear J HN hv M N Z c0 c1 a5 S b5 a9 b4 a8 hD d5 hA
      go_wp2_with (at_mapUpdate;refine wpList_mapUpdate_node _ rfl _ _ _ 100 rfl 3 underlying100 _ n f rfl HM.out _ _ rfl rfl HK.out ?_;intro w1 E G)
      go_roundw
      case rel=>exact ⟨k+1,_,_,by omega,by go_num,E,by rw [<- Y.out];exact A.out,D.out _ HG.out _ G⟩
      case measure=>simp [intOf];omega
  ·have h9:k=l.length:=(by omega);have i7:Hid (tH B w l f fwV):=(by have:=HN.out;rw [h9,List.take_length] at this;exact this);clear HN;go_wp2;go_ret;exact ⟨f,n,rfl,hM,i7.out,M⟩
def ldV (T:Tr):Value:=.agg #[.int .i64 (leadT T).1,.bool (leadT T).2]
theorem aFA (T y:Tr) (h:Sim T y):ldV T=ldV y:=by unfold ldV;rw [h.leadT]
theorem aAn (a b:Int) (h y:Bool) (w:World) (M : -1000000<=a/\a<=1000000) (N : -1000000<=b/\b<=1000000) :
  Calls prog 117 #[.agg #[.int .i64 a,.bool h],.agg #[.int .i64 b,.bool y]] w fun e w'=>e=.returned (.agg #[.int .i64 (if h=true then a else a+b),.bool (if h=true then h else y)])/\w.grownBy w' none:=by
 have A:∀ (J E G:Obj),w.grownBy (((w.alloc J).alloc E).alloc G) none:=fun _ _ _=>aA (aA gWA gWA) gWA;have D:=bH A;clear A;cases h with
 | true=>
   go_enter func117,ntmps117
   go_wp2
   go_returns
   all_goals exact ⟨rfl,D.out _ _ _⟩
 | false=>
   go_enter func117,ntmps117
   go_wp2
   go_returns
   all_goals exact ⟨rfl,D.out _ _ _⟩
theorem aDr (B:Nat) (nv u0:Value) (T0:Tr) (l:List Value) (w:World) (c2:w.ownsRow B 62 1 nv l.length l) (hr:Rep (fun _=>False) B w u0 T0) (hp:cS w u0 T0 l) (ho:lF (fun _=>False) w l) (l8:sz T0<=140000) :
  Calls prog 81 #[nv] w fun e w'=>∃ f n,e=.returned (.map (some w.heap.size))/\MapIs w' w.heap.size f n/\tH B w l f ldV/\w.grownBy w' none:=by
 obtain ⟨a,cap,g9,k5,h9⟩:=aU c2;subst g9;unfold maxLen at h9;have HR:Hid (w.ownsRow B 62 1 (.slice a l.length cap) l.length l):=c2;have i9:Hid (Rep (fun _=>False) B w u0 T0):=hr;have i0:Hid (cS w u0 T0 l):=hp;have b5:Hid (lF (fun _=>False) w l):=ho;clear c2 hr hp ho
 have k0:(Instr.makeMap 101 (some (.int .i64 (l.length:Int)))).run prog w=.ok (.map (some w.heap.size)) (w.alloc (.map #[] 0)):=by
  simp [Instr.makeMap,run_underlying underlying101,asInt,asIntOf]
 go_enter func81,ntmps81
 go_wp2
 go_loopw [18] (fun i wr=>∃ (k:Nat) (f:Value->Option Value) (n:Nat),k<=l.length/\i=.int .i64 k/\MapIs wr w.heap.size f n/\Hid (tH B w (l.take k) f ldV)/\w.grownBy wr none) (fun i _=>l.length - (intOf i).toNat)
 case atStart=>exact ⟨0,_,0,Nat.zero_le _,rfl,mapIs_made w,(by intro v hv;simp at hv),gWA⟩
 case round=>
  obtain ⟨k,f,n,hk,rfl,hM,HN,O⟩:=hrel
  by_cases i5:k<l.length
  ·obtain ⟨v,hv⟩:∃ v,l[k]?=some v:=⟨_,List.getElem?_eq_getElem i5⟩;obtain ⟨T,he,M,g7⟩:=kD i9.out i0.out k v hv;have j0:v∈l:=List.mem_of_getElem? hv;have b9:=(iZ b5.out j0 M).K O;have A:=bH (aC9 aFA b5.out hv M HN.out);have l1:=lA fP T;rcases HR.out.2 with ⟨_,h0⟩ | ⟨g,cp,k4,g8,k2,i6,j4,k3,i3,h8⟩
   ·omega
   cases g8;have d7:=World.ownsRow.cellAt HR.out k (by omega);rw [hv] at d7;have m0:=O.cell d7 (by simp);clear d7;have k8:=O.size;have j3:=hM.lt;have HM:=bH hM;have HK:=bH b9;have U:=bH (fun W (hW:wr.grownBy W none)=>hM.K hW);have X:=bH (fun W (hW:wr.grownBy W none)=>b9.K hW);have HG:=bH O;have b4:∀ w1,w.grownBy w1 none->∀ w2,w1.grownBy w2 (some w.heap.size)->w.grownBy w2 none:=fun w1 h1 w2 S=>bA h1 S (fun j e=>by cases e;exact Nat.le_refl _);have D:=bH b4;have J:wr.grownBy (wr.alloc (.cells #[.int .i64 0,.bool false] 152)) none:=gWA;clear i6 i3 h8 hM b9 b4;cases T with
   | leaf p=>
     have g5:=M;simp only [Rep] at g5;rcases g5 with ⟨h1,S⟩ | ⟨h1,S⟩ | ⟨h1,S⟩ | ⟨h1,S⟩ | ⟨h1,S⟩ | ⟨h1,b,tv,S,_,h4,h5,_⟩
     ·have hF:Hid (ldV (.leaf p)=.agg #[.int .i64 0,.bool false]):=(by unfold Hid ldV;simp [leadT,h1]);obtain ⟨f1,f2,f3,f4,f5,f6,f7,f8,f9,Z⟩:=nN;subst S;clear M he HN hv O
      go_wp2_with (at_mapUpdate;refine wpList_mapUpdate_node _ rfl _ _ _ 101 rfl 152 underlying101 _ n f rfl (U.out _ (by first | exact gWA | exact aA gWA gWA)) _ _ rfl rfl (X.out _ (by first | exact gWA | exact aA gWA gWA)) ?_;intro w1 E G)
      go_roundw
      case rel=>exact ⟨k+1,_,_,by omega,by go_num,E,by rw [<- hF.out];exact A.out,D.out _ (aA HG.out (by first | exact gWA | exact aA gWA gWA)) _ G⟩
      case measure=>simp [intOf];omega
     ·have hF:Hid (ldV (.leaf p)=.agg #[.int .i64 0,.bool true]):=(by unfold Hid ldV;simp [leadT,h1]);obtain ⟨f1,f2,f3,f4,f5,f6,f7,f8,f9,Z⟩:=qN;subst S;clear M he HN hv O
      go_wp2_with (at_mapUpdate;refine wpList_mapUpdate_node _ rfl _ _ _ 101 rfl 152 underlying101 _ n f rfl (U.out _ (by first | exact gWA | exact aA gWA gWA)) _ _ rfl rfl (X.out _ (by first | exact gWA | exact aA gWA gWA)) ?_;intro w1 E G)
      go_roundw
      case rel=>exact ⟨k+1,_,_,by omega,by go_num,E,by rw [<- hF.out];exact A.out,D.out _ (aA HG.out (by first | exact gWA | exact aA gWA gWA)) _ G⟩
      case measure=>simp [intOf];omega
     ·have hF:Hid (ldV (.leaf p)=.agg #[.int .i64 0,.bool true]):=(by unfold Hid ldV;simp [leadT,h1]);obtain ⟨f1,f2,f3,f4,f5,f6,f7,f8,f9,Z⟩:=qP;subst S;clear M he HN hv O
      go_wp2_with (at_mapUpdate;refine wpList_mapUpdate_node _ rfl _ _ _ 101 rfl 152 underlying101 _ n f rfl (U.out _ (by first | exact gWA | exact aA gWA gWA)) _ _ rfl rfl (X.out _ (by first | exact gWA | exact aA gWA gWA)) ?_;intro w1 E G)
      go_roundw
      case rel=>exact ⟨k+1,_,_,by omega,by go_num,E,by rw [<- hF.out];exact A.out,D.out _ (aA HG.out (by first | exact gWA | exact aA gWA gWA)) _ G⟩
      case measure=>simp [intOf];omega
     ·have hF:Hid (ldV (.leaf p)=.agg #[.int .i64 0,.bool true]):=(by unfold Hid ldV;simp [leadT,h1]);obtain ⟨f1,f2,f3,f4,f5,f6,f7,f8,f9,Z⟩:=tY;subst S;clear M he HN hv O
      go_wp2_with (at_mapUpdate;refine wpList_mapUpdate_node _ rfl _ _ _ 101 rfl 152 underlying101 _ n f rfl (U.out _ (by first | exact gWA | exact aA gWA gWA)) _ _ rfl rfl (X.out _ (by first | exact gWA | exact aA gWA gWA)) ?_;intro w1 E G)
      go_roundw
      case rel=>exact ⟨k+1,_,_,by omega,by go_num,E,by rw [<- hF.out];exact A.out,D.out _ (aA HG.out (by first | exact gWA | exact aA gWA gWA)) _ G⟩
      case measure=>simp [intOf];omega
     ·have hF:Hid (ldV (.leaf p)=.agg #[.int .i64 0,.bool true]):=(by unfold Hid ldV;simp [leadT,h1]);obtain ⟨f1,f2,f3,f4,f5,f6,f7,f8,f9,Z⟩:=xQ;subst S;clear M he HN hv O
      go_wp2_with (at_mapUpdate;refine wpList_mapUpdate_node _ rfl _ _ _ 101 rfl 152 underlying101 _ n f rfl (U.out _ (by first | exact gWA | exact aA gWA gWA)) _ _ rfl rfl (X.out _ (by first | exact gWA | exact aA gWA gWA)) ?_;intro w1 E G)
      go_roundw
      case rel=>exact ⟨k+1,_,_,by omega,by go_num,E,by rw [<- hF.out];exact A.out,D.out _ (aA HG.out (by first | exact gWA | exact aA gWA gWA)) _ G⟩
      case measure=>simp [intOf];omega
     ·have hF:Hid (ldV (.leaf p)=.agg #[.int .i64 (aI p.t),.bool false]):=(by unfold Hid ldV;simp [leadT,h1]);obtain ⟨f1,f2,f3,f4,f5,f6,f7,f8,f9,Z⟩:=qG (.pointer (some ⟨b,0,none⟩));have c1:wr.cell? ⟨b,1,none⟩=some (.int .i64 (aI p.t)):=O.cell (by simp [World.cell?,h5]) (by simp);have l3:=J.cell c1 (by simp);clear c1;subst S;clear M he HN hv O h5
      go_wp2_with (at_mapUpdate;refine wpList_mapUpdate_node _ rfl _ _ _ 101 rfl 152 underlying101 _ n f rfl (U.out _ (by first | exact gWA | exact aA gWA gWA)) _ _ rfl rfl (X.out _ (by first | exact gWA | exact aA gWA gWA)) ?_;intro w1 E G)
      go_roundw
      case rel=>exact ⟨k+1,_,_,by omega,by go_num,E,by rw [<- hF.out];exact A.out,D.out _ (aA HG.out (by first | exact gWA | exact aA gWA gWA)) _ G⟩
      case measure=>simp [intOf];omega
   | un p x=>
     obtain ⟨b,u,h7,c0,N,Y,d5⟩:=he;have h6:=J.cell (O.cell c0 (by simp)) (by simp);have a8:u∈l:=List.mem_of_mem_take Y
     have b7:(Instr.lookup 101 (.map (some w.heap.size)) u false).run prog (wr.alloc (.cells #[.int .i64 0,.bool false] 152))=.ok (.agg #[.int .i64 (leadT x).1,.bool (leadT x).2]) (wr.alloc (.cells #[.int .i64 0,.bool false] 152)):=by
      have:=(HM.out.K J).run_lookup (z:=.agg #[.int .i64 0,.bool false]) underlying101 rfl ((iZ b5.out a8 N).K (aA O J));rw [HN.out u Y x N] at this;exact this
     have hF:Hid (ldV (.un p x)=.agg #[.int .i64 (leadT x).1,.bool (leadT x).2]):=rfl;obtain ⟨tu,yu,a9⟩:=N.form;subst a9;simp only [sz] at g7;generalize (leadT x).1=fx at *;generalize (leadT x).2=ex at *;rcases d5 with ⟨h1,S⟩ | ⟨h1,S,h3⟩
     ·obtain ⟨f1,f2,f3,f4,f5,f6,f7,f8,f9,Z⟩:=nS (.pointer (some ⟨b,0,none⟩));subst S;clear M HN hv O N c0 a8 Y J
      go_wp2_with (at_mapUpdate;refine wpList_mapUpdate_node _ rfl _ _ _ 101 rfl 152 underlying101 _ n f rfl (U.out _ (by first | exact gWA | exact aA gWA gWA)) _ _ rfl rfl (X.out _ (by first | exact gWA | exact aA gWA gWA)) ?_;intro w1 E G)
      go_roundw
      case rel=>exact ⟨k+1,_,_,by omega,by go_num,E,by rw [<- hF.out];exact A.out,D.out _ (aA HG.out (by first | exact gWA | exact aA gWA gWA)) _ G⟩
      case measure=>simp [intOf];omega
     ·obtain ⟨f1,f2,f3,f4,f5,f6,f7,f8,f9,Z⟩:=pW (.pointer (some ⟨b,0,none⟩));subst S;clear M HN hv O N c0 a8 Y h3 J
      go_wp2_with (at_mapUpdate;refine wpList_mapUpdate_node _ rfl _ _ _ 101 rfl 152 underlying101 _ n f rfl (U.out _ (by first | exact gWA | exact aA gWA gWA)) _ _ rfl rfl (X.out _ (by first | exact gWA | exact aA gWA gWA)) ?_;intro w1 E G)
      go_roundw
      case rel=>exact ⟨k+1,_,_,by omega,by go_num,E,by rw [<- hF.out];exact A.out,D.out _ (aA HG.out (by first | exact gWA | exact aA gWA gWA)) _ G⟩
      case measure=>simp [intOf];omega
   | bin p x y=>
     obtain ⟨b,u,u',h7,c0,c1,N,a6,Y,b1,d5⟩:=he;have h6:=J.cell (O.cell c0 (by simp)) (by simp);have l7:=J.cell (O.cell c1 (by simp)) (by simp);have a8:u∈l:=List.mem_of_mem_take Y;have b8:u'∈l:=List.mem_of_mem_take b1
     have b7:∀ W,wr.grownBy W none->(Instr.lookup 101 (.map (some w.heap.size)) u false).run prog W=.ok (.agg #[.int .i64 (leadT x).1,.bool (leadT x).2]) W:=by
      intro W hW;have:=(HM.out.K hW).run_lookup (z:=.agg #[.int .i64 0,.bool false]) underlying101 rfl ((iZ b5.out a8 N).K (aA O hW));rw [HN.out u Y x N] at this;exact this
     have b0:∀ W,wr.grownBy W none->(Instr.lookup 101 (.map (some w.heap.size)) u' false).run prog W=.ok (.agg #[.int .i64 (leadT y).1,.bool (leadT y).2]) W:=by
      intro W hW;have:=(HM.out.K hW).run_lookup (z:=.agg #[.int .i64 0,.bool false]) underlying101 rfl ((iZ b5.out b8 a6).K (aA O hW));rw [HN.out u' b1 y a6] at this;exact this
     have hA:=b7 _ J;have g6:=b0 _ J;have b6:wr.grownBy (wr.alloc (.cells #[.int .i64 0,.bool false] 152)).drew none:=⟨J.os,J.tape,J.output,J.size,J.block⟩;have hD:=b7 _ b6;have g1:=b0 _ b6;have l6:=lA fP x;have l2:=lA fP y;obtain ⟨tu,yu,a9⟩:=N.form;obtain ⟨k1,l0,d1⟩:=a6.form;subst a9 d1;simp only [sz] at g7;rcases d5 with ⟨h1,S⟩ | ⟨h1,S⟩
     ·have hF:Hid (ldV (.bin p x y)=.agg #[.int .i64 (if (leadT x).2=true then (leadT x).1 else (leadT x).1+(leadT y).1),.bool (if (leadT x).2=true then (leadT x).2 else (leadT y).2)]):=by
       unfold Hid ldV;simp only [leadT]
       by_cases b2:(leadT x).2=true
       ·rw [if_pos (.inr b2),if_pos b2,if_pos b2]
       ·rw [if_neg (by rintro (h | h);omega;exact b2 h),if_neg b2,if_neg b2]
      obtain ⟨f1,f2,f3,f4,f5,f6,f7,f8,f9,Z⟩:=vA (.pointer (some ⟨b,0,none⟩));have hS:∀ W,_:=fun W=>aAn (leadT x).1 (leadT y).1 (leadT x).2 (leadT y).2 W (by omega) (by omega);have HS:=bH hS;clear hS;generalize (if (leadT x).2=true then (leadT x).1 else (leadT x).1+(leadT y).1)=fs at *;generalize (if (leadT x).2=true then (leadT x).2 else (leadT y).2)=es at *;generalize (leadT x).1=fx at *;generalize (leadT y).1=fy at *;generalize (leadT x).2=ex at *;generalize (leadT y).2=ey at *;have i1:=bH b6;subst S;clear M HN hv O N a6 c0 c1 a8 Y b8 b1 b7 b0 J b6
      go_wp2_with fail
      go_region_with (go_at_call 117;refine (HS.out _).mono ?_;rintro e w2 ⟨rfl,g2⟩;have z0:=g2.cell (a:=⟨wr.heap.size,0,none⟩) (v:=.int .i64 0) (by simp [go_sem]) (by simp);have z1:=g2.cell (a:=⟨wr.heap.size,1,none⟩) (v:=.bool false) (by simp [go_sem]) (by simp);have y0:w2.frozen? ⟨wr.heap.size,0,none⟩=false:=(World.frozen?_of_block (g2.block wr.heap.size (by simp) (by simp))).trans (by simp [go_sem]);have y1:w2.frozen? ⟨wr.heap.size,1,none⟩=false:=(World.frozen?_of_block (g2.block wr.heap.size (by simp) (by simp))).trans (by simp [go_sem]))
      all_goals
       have d6:=bH (bA (bA (aA i1.out g2) (rJ w2 ⟨wr.heap.size,0,none⟩ (.int .i64 fs)) (fun j e=>by cases e;exact Nat.le_refl _)) (rJ _ ⟨wr.heap.size,1,none⟩ (.bool es)) (fun j e=>by cases e;exact Nat.le_refl _));clear g2 hA g6 hD g1
       go_wp2_with (at_mapUpdate;refine wpList_mapUpdate_node _ rfl _ _ _ 101 rfl 152 underlying101 _ n f rfl (U.out _ d6.out) _ _ rfl rfl (X.out _ d6.out) ?_;intro w1 E G)
       go_roundw
       case rel=>exact ⟨k+1,_,_,by omega,by go_num,E,by rw [<- hF.out];exact A.out,D.out _ (aA HG.out d6.out) _ G⟩
       case measure=>simp [intOf];omega
     ·have hF:Hid (ldV (.bin p x y)=.agg #[.int .i64 (leadT x).1,.bool (leadT x).2]):=(by unfold Hid ldV;simp only [leadT];rw [if_pos (.inl h1)]);obtain ⟨f1,f2,f3,f4,f5,f6,f7,f8,f9,Z⟩:=tZ (.pointer (some ⟨b,0,none⟩));generalize (leadT x).1=fx at *;generalize (leadT x).2=ex at *;subst S;clear M HN hv O N a6 c0 c1 a8 Y b8 b1 b7 b0 hD g1 g6 J b6
      go_wp2_with (at_mapUpdate;refine wpList_mapUpdate_node _ rfl _ _ _ 101 rfl 152 underlying101 _ n f rfl (U.out _ (by first | exact gWA | exact aA gWA gWA)) _ _ rfl rfl (X.out _ (by first | exact gWA | exact aA gWA gWA)) ?_;intro w1 E G)
      go_roundw
      case rel=>exact ⟨k+1,_,_,by omega,by go_num,E,by rw [<- hF.out];exact A.out,D.out _ (aA HG.out (by first | exact gWA | exact aA gWA gWA)) _ G⟩
      case measure=>simp [intOf];omega
  ·have i2:k=l.length:=(by omega);have i8:Hid (tH B w l f ldV):=(by have:=HN.out;rw [i2,List.take_length] at this;exact this);clear HN;go_wp2;go_ret;exact ⟨f,n,rfl,hM,i8.out,O⟩
end Go.Proofs.YtmfehflibkokbaaGreatDoor
namespace Go.Proofs.YtmfehflibkokbaaGreatDoor.P
open Go.Proofs.Tryz
open Go.RowKit Go.Proofs.YtmfehflibkokbaaGreatDoor
inductive NKey (w:World):Value->Prop
 | ptr (b:Nat) (cs:Array Value) (t':TypeId) (hb:w.heap[b]?=some (.cells cs t')):NKey w (.pointer (some ⟨b,0,none⟩))
theorem aEx (a b:Addr) (w:World):(Op.equal 185 (.pointer (some a)) (.pointer (some b))).run prog w=(sameAddr a b).run prog w:=by kernel_rfl
theorem aCN {w:World} {k k':Value} (h:NKey w k) (y:NKey w k'):(Op.equal 185 k k').run prog w=.ok (kEq k k') w:=by
 cases h with
 | ptr b cs t hb=>
   cases y with
   | ptr b' cs' t' hb'=>
     rw [aEx,uT hb hb'];congr 1
theorem nC {w:World} {k k':Value} (h:NKey w k) (y:NKey w k'):kEq k k'=true ↔ k=k':=by
 cases h with
 | ptr b cs t hb=>
   cases y with
   | ptr b' cs' t' hb'=>simp [kEq,iL]
theorem kEq_self {w:World} {k:Value} (h:NKey w k):kEq k k=true:=(nC h h).2 rfl
theorem gQ {w:World} {k:Value} (h:NKey w k):∀ (y:List MapEntry) (i:Nat),(∀ e∈y,NKey w e.key)->(Instr.findAsking 185 k y i).run prog w=.ok (cX k y i) w
 | [],i,_=>by simp [Instr.findAsking,cX]
 | e::y,i,he=>by
   have A:=aCN h (he e (List.mem_cons_self ..));have D:=gQ h y (i+1) (fun x E=>he x (List.mem_cons_of_mem _ E));simp only [Instr.findAsking,cX,Sem.run_bind,A,Result.andThen_ok];cases kEq k e.key
   ·simpa using D
   ·simp
theorem kU {w:World} {k:Value} (h:NKey w k) (y:List MapEntry) (D:∀ e∈y,NKey w e.key):(Instr.findKey 185 k y).run prog w=.ok (cX k y 0) w:=by
 have A:=gQ h y 0 D;unfold Instr.findKey;rw [Sem.run_bind,run_underlying underlying185,Result.andThen_ok];cases y with
 | nil=>simp [Instr.findNow,cX]
 | cons e y=>
   simp only [Instr.findNow,Instr.sameNow];exact A
theorem jO {w:World} {k:Value} (h:NKey w k) (e:Bool):(Instr.checkKey e 10000 185 k).run prog w=.ok () w:=by
 cases h with
 | ptr b cs t' hb=>kernel_rfl
def MapIs (w:World) (b:Nat) (f:Value->Option Value) (n:Nat):Prop:=
 ∃ es clock,w.heap[b]?=some (.map es clock)/\es.size=n/\(∀ e∈es.toList,NKey w e.key)/\∀ k,(cX k es.toList 0).map (·.2)=f k
theorem mapIs_made (w:World):MapIs (w.alloc (.map #[] 0)) w.heap.size (fun _=>none) 0:=
 ⟨#[],0,heap_alloc_new _ _,rfl,by simp,fun k=>by simp [cX]⟩
theorem MapIs.run_lookup {w:World} {b n:Nat} {f:Value->Option Value} (h:MapIs w b f n) {t e:TypeId} (M:prog.underlying t=some (.map 185 e)) {z:Value} (U:(zeroValue e).run prog w=.ok z w) {k:Value} (J:NKey w k) :
  (Instr.lookup t (.map (some b)) k false).run prog w=.ok ((f k).getD z) w:=by
 obtain ⟨D,E,N,Y,X,S⟩:=h;have A:=kU J D.toList X;have y:=S k;have G:=jO J D.isEmpty;cases O:cX k D.toList 0 with
 | none=>
   rw [O] at y A;simp only [Option.map_none] at y;rw [<- y];simp [Instr.lookup,run_underlying M,MapKept.run_getObj_map N,G,A,U]
 | some x=>
   rw [O] at y A;simp only [Option.map_some] at y;rw [<- y];simp [Instr.lookup,run_underlying M,MapKept.run_getObj_map N,G,A]
theorem MapIs.lt {w:World} {b n:Nat} {f:Value->Option Value} (h:MapIs w b f n):b<w.heap.size:=by
 obtain ⟨D,y,A,_⟩:=h;exact (Array.getElem?_eq_some_iff.1 A).1
theorem kV {w:World} {k k' x:Value} (M:NKey w k):∀ (l:List MapEntry) (i:Nat) (v:Value),(∀ e∈l,NKey w e.key)->cX k l 0=some (i,v)->
  (cX k' (l.modify i fun e=>{ e with key:=k,val:=x }) 0).map (·.2)=if kEq k k' then some x else (cX k' l 0).map (·.2)
 | [],i,v,_,h=>by simp [cX] at h
 | e::es,i,v,he,h=>by
   have G:=he e (List.mem_cons_self ..);simp only [cX] at h;cases A:kEq k e.key with
   | true=>
     rw [A] at h;simp only [if_true,Option.some.injEq,Prod.mk.injEq] at h;obtain ⟨rfl,_⟩:=h;have D:=(nC M G).1 A;rw [List.modify_zero_cons];simp only [cX];rw [<- D,uD k' k];cases kEq k k'<;>simp
   | false=>
     rw [A] at h;simp only [Bool.false_eq_true,if_false] at h;rw [eR] at h;cases J:cX k es 0 with
     | none=>rw [J] at h;cases h
     | some y=>
       obtain ⟨j,u⟩:=y;rw [J] at h;simp only [Option.map_some,Option.some.injEq,Prod.mk.injEq] at h;obtain ⟨O,X⟩:=h;subst O;have U:=kV (k':=k') (x:=x) M es j u (fun z N=>he z (List.mem_cons_of_mem _ N)) J;rw [show 0+1=1 from rfl,List.modify_succ_cons];simp only [cX];cases E:kEq k' e.key with
       | true=>
         have S:kEq k k'=false:=by
          rw [Bool.eq_false_iff];intro h;rw [rE h E] at A;cases A
         simp [S]
       | false=>
         simp only [Bool.false_eq_true,if_false];rw [eR k' _ (0+1),eR k' es (0+1)];simpa [Option.map_map,Function.comp_def] using U
theorem oP {w:World} {k:Value} (h:NKey w k):Instr.sameBits 10000 k k=true:=by
 rw [show (10000:Nat)=9998+1+1 from rfl];generalize 9998=d;cases h<;>simp [Instr.sameBits]
theorem wR {w:World} {k:Value} (h:NKey w k):(Instr.keyThatStays k k).run prog w=.ok k w:=by
 simp [Instr.keyThatStays,oP h]
theorem vB {w:World} {k:Value} (E:NKey w k):∀ (l:List MapEntry) (i:Nat) (v:Value),(∀ e∈l,NKey w e.key)->cX k l 0=some (i,v)->∃ e,l[i]?=some e/\e.key=k
 | [],i,v,_,h=>by simp [cX] at h
 | e::es,i,v,he,h=>by
   simp only [cX] at h;cases A:kEq k e.key with
   | true=>
     rw [A] at h;simp only [if_true,Option.some.injEq,Prod.mk.injEq] at h;obtain ⟨rfl,_⟩:=h;exact ⟨e,rfl,((nC E (he e (List.mem_cons_self ..))).1 A).symm⟩
   | false=>
     rw [A] at h;simp only [Bool.false_eq_true,if_false] at h;rw [eR] at h;cases D:cX k es 0 with
     | none=>rw [D] at h;cases h
     | some y=>
       obtain ⟨j,u⟩:=y;rw [D] at h;simp only [Option.map_some,Option.some.injEq,Prod.mk.injEq] at h;obtain ⟨N,O⟩:=h;subst N;obtain ⟨d,M,G⟩:=vB E es j u (fun z J=>he z (List.mem_cons_of_mem _ J)) D;exact ⟨d,by simpa using M,G⟩
theorem NKey.set {w:World} {b:Nat} {D:Array MapEntry} {c:Nat} (y:w.heap[b]?=some (.map D c)) (o:Obj) {v:Value} (h:NKey w v):NKey { w with heap:=w.heap.setIfInBounds b o } v:=by
 cases h with
 | ptr b' cs t' hb'=>
   refine .ptr b' cs t' (((MapKept.heap_set y).2 b' fun A=>?_).trans hb');rw [A,y] at hb';cases hb'
theorem NKey.K {w w':World} {v:Value} (h:NKey w v) (y:w.grownBy w' none):NKey w' v:=by
 cases h with
 | ptr b cs t' hb=>exact .ptr b cs t' ((y.block b (Array.getElem?_eq_some_iff.1 hb).1 (by simp)).trans hb)
theorem MapIs.K {w w':World} {b n:Nat} {f:Value->Option Value} (h:MapIs w b f n) (D:w.grownBy w' none):MapIs w' b f n:=by
 have A:=h.lt;obtain ⟨M,y,N,J,G,E⟩:=h;exact ⟨M,y,(D.block b A (by simp)).trans N,J,fun e O=>(G e O).K D,E⟩
theorem MapIs.run_update {w:World} {b n:Nat} {f:Value->Option Value} (h:MapIs w b f n) {t e:TypeId} (ht:prog.underlying t=some (.map 185 e)) {k:Value} (N:NKey w k) (x:Value) :
  ∃ w',(Instr.mapUpdate t (.map (some b)) k x).run prog w=.ok () w'/\MapIs w' b (fun k'=>if kEq k k' then some x else f k') (if (f k).isSome then n else n+1)/\w.grownBy w' (some b):=by
 obtain ⟨O,a8,A,Z,X,hl⟩:=h;have h1:=kU N O.toList X;have J:=hl k;have h3:=jO N false;have Y:∀ o,w.grownBy { w with heap:=w.heap.setIfInBounds b o } (some b):=fun o=>⟨rfl,rfl,rfl,by simp,fun i _ M=>(MapKept.heap_set A).2 i (fun e=>M (by rw [e]))⟩;cases U:cX k O.toList 0 with
 | none=>
   rw [U] at J h1;simp only [Option.map_none] at J;refine ⟨_,by simp [Instr.mapUpdate,run_underlying ht,MapKept.run_getObj_map A,h3,h1,MapKept.run_setObj_map _ A];rfl,⟨_,_,(MapKept.heap_set A).1,?_,?_,?_⟩,Y _⟩
   ·rw [<- J];simp [Z]
   ·intro z D;rw [Array.toList_push] at D;rcases List.mem_append.1 D with D | D
    ·exact (X z D).set A _
    ·simp only [List.mem_singleton] at D;subst D;exact N.set A _
   ·intro k';rw [Array.toList_push,aAu (w:=w)];have S:=hl k';cases hy:cX k' O.toList 0 with
    | none=>
      rw [hy] at S;simp only [Option.map_none] at S;dsimp only;rw [<- S,uD k' k];cases kEq k k'<;>simp
    | some y=>
      rw [hy] at S;simp only [Option.map_some] at S ⊢
      have e2:kEq k k'=false:=by
       rw [Bool.eq_false_iff];intro h
       have Z:∀ (l:List MapEntry) (i:Nat),cX k l i=none->cX k' l i=none:=by
        intro l
        induction l with
        | nil=>intro i _;rfl
        | cons d l IH=>
          intro i M;simp only [cX] at M ⊢;cases E:kEq k d.key with
          | true=>rw [E] at M;simp at M
          | false=>
            rw [E] at M;simp only [Bool.false_eq_true,if_false] at M
            have:kEq k' d.key=false:=by
             rw [Bool.eq_false_iff];intro J;rw [rE h J] at E;cases E
            rw [this];simp only [Bool.false_eq_true,if_false];exact IH (i+1) M
       rw [Z _ _ U] at hy;cases hy
      rw [e2];simpa using S
 | some y=>
   obtain ⟨i,v⟩:=y;rw [U] at J h1;simp only [Option.map_some] at J;obtain ⟨d,hd,a9⟩:=vB N O.toList i v X U;have a7:O[i]?=some d:=(by rw [<- Array.getElem?_toList];exact hd);refine ⟨_,by simp [Instr.mapUpdate,run_underlying ht,MapKept.run_getObj_map A,h3,h1,a7,a9,wR N,MapKept.run_setObj_map _ A];rfl,⟨_,_,(MapKept.heap_set A).1,?_,?_,?_⟩,Y _⟩
   ·rw [<- J];simp [Z]
   ·intro z D;rw [Array.toList_modify] at D;obtain ⟨j,G⟩:=List.mem_iff_getElem?.1 D;rw [List.getElem?_modify] at G;cases E:O.toList[j]? with
    | none=>rw [E] at G;simp at G
    | some q=>
      rw [E] at G;simp only [Option.map_eq_map,Option.map_some,Option.some.injEq] at G
      split at G
      ·subst G;exact N.set A _
      ·subst G;exact (X q (List.mem_of_getElem? E)).set A _
   ·intro k';rw [Array.toList_modify,kV N O.toList i v X U,hl k']
theorem wpList_mapUpdate_node (w:World) {ops:Array Oper} {rest:List Oper} {o:Oper} {a:Act} {Q:Exit->Act->World->Prop}
  (O:o.guard=none) (m x v:Operand) (t:TypeId) (D:o.op=Op.mapUpdate t m x v) (e:TypeId) (N:prog.underlying t=some (.map 185 e)) (b n:Nat) (f:Value->Option Value)
  (S:a.eval m=.map (some b)) (h:MapIs w b f n) (key val:Value) (U:a.eval x=key) (hv:a.eval v=val) (A:NKey w key)
  (M:∀ w',MapIs w' b (fun k'=>if kEq key k' then some val else f k') (if (f key).isSome then n else n+1)->w.grownBy w' (some b)->wpList prog ops Q rest (a.put o.dst undef) w') :
  wpList prog ops Q (o::rest) a w:=by
 refine wpList_plain O fun X E=>?_;obtain ⟨w',y,G,J⟩:=h.run_update N A val;unfold Oper.wp;simp [execOp,D,S,U,hv,y,Result.andThen];exact E _ _ (M w' G J)
theorem MapIs.run_len {w:World} {b n:Nat} {f:Value->Option Value} (h:MapIs w b f n) {t e:TypeId} (E:prog.underlying t=some (.map 185 e)) (D:TypeId):(Builtin.len_ #[t] D #[.map (some b)]).run prog w=.ok (.int .i64 (n:Int)) w:=by
 obtain ⟨N,y,G,A,M,J⟩:=h;simp [Builtin.len_,run_underlying E,MapKept.run_getObj_map G,goInt,Result.andThen,A]
end Go.Proofs.YtmfehflibkokbaaGreatDoor.P
