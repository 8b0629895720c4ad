import Derived.Test.YtgifkcpdihphlaaGreatDoorMBJ
set_option maxHeartbeats 16000000
set_option maxRecDepth 100000
namespace Go.Proofs.YtgifkcpdihphlaaGreatDoor
open Tryz
open Go.RowKit
def ldV (T:Tr):Value:=.agg #[.int .i64 (leadT T).1,.bool (leadT T).2]
theorem aGJ (T j:Tr) (h:Sim T j):ldV T=ldV j:=by unfold ldV;rw [h.leadT]
theorem zH (a b:Int) (h u:Bool) (w:World) (H : -1000000<=a/\a<=1000000) (G : -1000000<=b/\b<=1000000) :
  Calls prog 129 #[.agg #[.int .i64 a,.bool h],.agg #[.int .i64 b,.bool u]] w fun e w'=>e=.returned (.agg #[.int .i64 (if h=true then a else a+b),.bool (if h=true then h else u)])/\w.grownBy w' none:=by
 have j:∀ (D A E:Obj),w.grownBy (((w.alloc D).alloc A).alloc E) none:=fun _ _ _=>aA (aA gWA gWA) gWA;have y:=bJ j;clear j;cases h with
 | true=>
   go_enter func129,ntmps129
   go_wp2
   go_returns
   all_goals exact ⟨rfl,y.out _ _ _⟩
 | false=>
   go_enter func129,ntmps129
   go_wp2
   go_returns
   all_goals exact ⟨rfl,y.out _ _ _⟩
theorem aEG (B:Nat) (nv u0:Value) (T0:Tr) (l:List Value) (w:World) (b3:w.ownsRow B 153 1 nv l.length l) (hr:Rep (fun _=>False) B w u0 T0) (hp:cV w u0 T0 l) (ho:lH (fun _=>False) w l) (l2:sz T0<=140000) :
  Calls prog 92 #[nv] w fun e w'=>∃ f n,e=.returned (.map (some w.heap.size))/\MapIs w' w.heap.size f n/\uA B w l f ldV/\w.grownBy w' none:=by
 obtain ⟨a,cap,i7,k1,i8⟩:=bD b3;subst i7;unfold maxLen at i8;have HR:Hid (w.ownsRow B 153 1 (.slice a l.length cap) l.length l):=b3;have i4:Hid (Rep (fun _=>False) B w u0 T0):=hr;have h6:Hid (cV w u0 T0 l):=hp;have b4:Hid (lH (fun _=>False) w l):=ho;clear b3 hr hp ho
 have l1:(Instr.makeMap 102 (some (.int .i64 (l.length:Int)))).run prog w=.ok (.map (some w.heap.size)) (w.alloc (.map #[] 0)):=by
  simp [Instr.makeMap,run_underlying underlying102,asInt,asIntOf]
 go_enter func92,ntmps92
 go_wp2
 go_loopw [18] (fun i wr=>∃ (k:Nat) (f:Value->Option Value) (n:Nat),k<=l.length/\i=.int .i64 k/\MapIs wr w.heap.size f n/\Hid (uA B w (l.take k) f ldV)/\w.grownBy wr none) (fun i _=>l.length - (intOf i).toNat)
 case atStart=>exact ⟨0,_,0,Nat.zero_le _,rfl,mapIs_made w,(by intro v hv;simp at hv),gWA⟩
 case round=>
  obtain ⟨k,f,n,hk,rfl,hM,HN,M⟩:=hrel
  by_cases i6:k<l.length
  ·obtain ⟨v,hv⟩:∃ v,l[k]?=some v:=⟨_,List.getElem?_eq_getElem i6⟩;obtain ⟨T,he,J,d9⟩:=kX i4.out h6.out k v hv;have h7:v∈l:=List.mem_of_getElem? hv;have b7:=(jG b4.out h7 J).K M;have D:=bJ (aDU aGJ b4.out hv J HN.out);have k4:=lG fZ T;rcases HR.out.2 with ⟨_,h0⟩ | ⟨g,cp,k2,i5,k3,i0,j7,l5,g7,g9⟩
   ·omega
   cases i5;have d5:=World.ownsRow.cellAt HR.out k (by omega);rw [hv] at d5;have m0:=M.cell d5 (by simp);clear d5;have k9:=M.size;have j4:=hM.lt;have HM:=bJ hM;have HK:=bJ b7;have N:=bJ (fun W (hW:wr.grownBy W none)=>hM.K hW);have O:=bJ (fun W (hW:wr.grownBy W none)=>b7.K hW);have HG:=bJ M;have b5:∀ w1,w.grownBy w1 none->∀ w2,w1.grownBy w2 (some w.heap.size)->w.grownBy w2 none:=fun w1 Y w2 S=>aU Y S (fun j e=>by cases e;exact Nat.le_refl _);have A:=bJ b5;have H:wr.grownBy (wr.alloc (.cells #[.int .i64 0,.bool false] 155)) none:=gWA;clear i0 g7 g9 hM b7 b5;cases T with
   | leaf p=>
     have g5:=J;simp only [Rep] at g5;rcases g5 with ⟨Y,S⟩ | ⟨Y,S⟩ | ⟨Y,S⟩ | ⟨Y,S⟩ | ⟨Y,S⟩ | ⟨Y,b,tv,S,_,h4,h5,_⟩
     ·have Z:Hid (ldV (.leaf p)=.agg #[.int .i64 0,.bool false]):=(by unfold Hid ldV;simp [leadT,Y]);obtain ⟨f1,f2,f3,f4,f5,f6,f7,f8,f9,X⟩:=oQ;subst S;clear J he HN hv M
      go_wp2_with (at_mapUpdate;refine wpList_mapUpdate_node _ rfl _ _ _ 102 rfl 155 underlying102 _ n f rfl (N.out _ (by first | exact gWA | exact aA gWA gWA)) _ _ rfl rfl (O.out _ (by first | exact gWA | exact aA gWA gWA)) ?_;intro w1 E G)
      go_roundw
      case rel=>exact ⟨k+1,_,_,by omega,by go_num,E,by rw [<- Z.out];exact D.out,A.out _ (aA HG.out (by first | exact gWA | exact aA gWA gWA)) _ G⟩
      case measure=>simp [intOf];omega
     ·have Z:Hid (ldV (.leaf p)=.agg #[.int .i64 0,.bool true]):=(by unfold Hid ldV;simp [leadT,Y]);obtain ⟨f1,f2,f3,f4,f5,f6,f7,f8,f9,X⟩:=rK;subst S;clear J he HN hv M
      go_wp2_with (at_mapUpdate;refine wpList_mapUpdate_node _ rfl _ _ _ 102 rfl 155 underlying102 _ n f rfl (N.out _ (by first | exact gWA | exact aA gWA gWA)) _ _ rfl rfl (O.out _ (by first | exact gWA | exact aA gWA gWA)) ?_;intro w1 E G)
      go_roundw
      case rel=>exact ⟨k+1,_,_,by omega,by go_num,E,by rw [<- Z.out];exact D.out,A.out _ (aA HG.out (by first | exact gWA | exact aA gWA gWA)) _ G⟩
      case measure=>simp [intOf];omega
     ·have Z:Hid (ldV (.leaf p)=.agg #[.int .i64 0,.bool true]):=(by unfold Hid ldV;simp [leadT,Y]);obtain ⟨f1,f2,f3,f4,f5,f6,f7,f8,f9,X⟩:=rR;subst S;clear J he HN hv M
      go_wp2_with (at_mapUpdate;refine wpList_mapUpdate_node _ rfl _ _ _ 102 rfl 155 underlying102 _ n f rfl (N.out _ (by first | exact gWA | exact aA gWA gWA)) _ _ rfl rfl (O.out _ (by first | exact gWA | exact aA gWA gWA)) ?_;intro w1 E G)
      go_roundw
      case rel=>exact ⟨k+1,_,_,by omega,by go_num,E,by rw [<- Z.out];exact D.out,A.out _ (aA HG.out (by first | exact gWA | exact aA gWA gWA)) _ G⟩
      case measure=>simp [intOf];omega
     ·have Z:Hid (ldV (.leaf p)=.agg #[.int .i64 0,.bool true]):=(by unfold Hid ldV;simp [leadT,Y]);obtain ⟨f1,f2,f3,f4,f5,f6,f7,f8,f9,X⟩:=vV;subst S;clear J he HN hv M
      go_wp2_with (at_mapUpdate;refine wpList_mapUpdate_node _ rfl _ _ _ 102 rfl 155 underlying102 _ n f rfl (N.out _ (by first | exact gWA | exact aA gWA gWA)) _ _ rfl rfl (O.out _ (by first | exact gWA | exact aA gWA gWA)) ?_;intro w1 E G)
      go_roundw
      case rel=>exact ⟨k+1,_,_,by omega,by go_num,E,by rw [<- Z.out];exact D.out,A.out _ (aA HG.out (by first | exact gWA | exact aA gWA gWA)) _ G⟩
      case measure=>simp [intOf];omega
     ·have Z:Hid (ldV (.leaf p)=.agg #[.int .i64 0,.bool true]):=(by unfold Hid ldV;simp [leadT,Y]);obtain ⟨f1,f2,f3,f4,f5,f6,f7,f8,f9,X⟩:=yS;subst S;clear J he HN hv M
      go_wp2_with (at_mapUpdate;refine wpList_mapUpdate_node _ rfl _ _ _ 102 rfl 155 underlying102 _ n f rfl (N.out _ (by first | exact gWA | exact aA gWA gWA)) _ _ rfl rfl (O.out _ (by first | exact gWA | exact aA gWA gWA)) ?_;intro w1 E G)
      go_roundw
      case rel=>exact ⟨k+1,_,_,by omega,by go_num,E,by rw [<- Z.out];exact D.out,A.out _ (aA HG.out (by first | exact gWA | exact aA gWA gWA)) _ G⟩
      case measure=>simp [intOf];omega
     ·have Z:Hid (ldV (.leaf p)=.agg #[.int .i64 (aH p.t),.bool false]):=(by unfold Hid ldV;simp [leadT,Y]);obtain ⟨f1,f2,f3,f4,f5,f6,f7,f8,f9,X⟩:=qS (.pointer (some ⟨b,0,none⟩));have c1:wr.cell? ⟨b,1,none⟩=some (.int .i64 (aH p.t)):=M.cell (by simp [World.cell?,h5]) (by simp);have k5:=H.cell c1 (by simp);clear c1;subst S;clear J he HN hv M h5
      go_wp2_with (at_mapUpdate;refine wpList_mapUpdate_node _ rfl _ _ _ 102 rfl 155 underlying102 _ n f rfl (N.out _ (by first | exact gWA | exact aA gWA gWA)) _ _ rfl rfl (O.out _ (by first | exact gWA | exact aA gWA gWA)) ?_;intro w1 E G)
      go_roundw
      case rel=>exact ⟨k+1,_,_,by omega,by go_num,E,by rw [<- Z.out];exact D.out,A.out _ (aA HG.out (by first | exact gWA | exact aA gWA gWA)) _ G⟩
      case measure=>simp [intOf];omega
   | un p x=>
     obtain ⟨b,u,i3,c0,L,U,d2⟩:=he;have i1:=H.cell (M.cell c0 (by simp)) (by simp);have a7:u∈l:=List.mem_of_mem_take U
     have b2:(Instr.lookup 102 (.map (some w.heap.size)) u false).run prog (wr.alloc (.cells #[.int .i64 0,.bool false] 155))=.ok (.agg #[.int .i64 (leadT x).1,.bool (leadT x).2]) (wr.alloc (.cells #[.int .i64 0,.bool false] 155)):=by
      have:=(HM.out.K H).run_lookup (z:=.agg #[.int .i64 0,.bool false]) underlying102 rfl ((jG b4.out a7 L).K (aA M H));rw [HN.out u U x L] at this;exact this
     have Z:Hid (ldV (.un p x)=.agg #[.int .i64 (leadT x).1,.bool (leadT x).2]):=rfl;obtain ⟨tu,yu,a6⟩:=L.form;subst a6;simp only [sz] at d9;generalize (leadT x).1=fx at *;generalize (leadT x).2=ex at *;rcases d2 with ⟨Y,S⟩ | ⟨Y,S,h3⟩
     ·obtain ⟨f1,f2,f3,f4,f5,f6,f7,f8,f9,X⟩:=pE (.pointer (some ⟨b,0,none⟩));subst S;clear J HN hv M L c0 a7 U H
      go_wp2_with (at_mapUpdate;refine wpList_mapUpdate_node _ rfl _ _ _ 102 rfl 155 underlying102 _ n f rfl (N.out _ (by first | exact gWA | exact aA gWA gWA)) _ _ rfl rfl (O.out _ (by first | exact gWA | exact aA gWA gWA)) ?_;intro w1 E G)
      go_roundw
      case rel=>exact ⟨k+1,_,_,by omega,by go_num,E,by rw [<- Z.out];exact D.out,A.out _ (aA HG.out (by first | exact gWA | exact aA gWA gWA)) _ G⟩
      case measure=>simp [intOf];omega
     ·obtain ⟨f1,f2,f3,f4,f5,f6,f7,f8,f9,X⟩:=rA (.pointer (some ⟨b,0,none⟩));subst S;clear J HN hv M L c0 a7 U h3 H
      go_wp2_with (at_mapUpdate;refine wpList_mapUpdate_node _ rfl _ _ _ 102 rfl 155 underlying102 _ n f rfl (N.out _ (by first | exact gWA | exact aA gWA gWA)) _ _ rfl rfl (O.out _ (by first | exact gWA | exact aA gWA gWA)) ?_;intro w1 E G)
      go_roundw
      case rel=>exact ⟨k+1,_,_,by omega,by go_num,E,by rw [<- Z.out];exact D.out,A.out _ (aA HG.out (by first | exact gWA | exact aA gWA gWA)) _ G⟩
      case measure=>simp [intOf];omega
   | bin p x y=>
     obtain ⟨b,u,u',i3,c0,c1,L,a4,U,a8,d2⟩:=he;have i1:=H.cell (M.cell c0 (by simp)) (by simp);have k6:=H.cell (M.cell c1 (by simp)) (by simp);have a7:u∈l:=List.mem_of_mem_take U;have b8:u'∈l:=List.mem_of_mem_take a8
     have b2:∀ W,wr.grownBy W none->(Instr.lookup 102 (.map (some w.heap.size)) u false).run prog W=.ok (.agg #[.int .i64 (leadT x).1,.bool (leadT x).2]) W:=by
      intro W hW;have:=(HM.out.K hW).run_lookup (z:=.agg #[.int .i64 0,.bool false]) underlying102 rfl ((jG b4.out a7 L).K (aA M hW));rw [HN.out u U x L] at this;exact this
     have a9:∀ W,wr.grownBy W none->(Instr.lookup 102 (.map (some w.heap.size)) u' false).run prog W=.ok (.agg #[.int .i64 (leadT y).1,.bool (leadT y).2]) W:=by
      intro W hW;have:=(HM.out.K hW).run_lookup (z:=.agg #[.int .i64 0,.bool false]) underlying102 rfl ((jG b4.out b8 a4).K (aA M hW));rw [HN.out u' a8 y a4] at this;exact this
     have hA:=b2 _ H;have g4:=a9 _ H;have b6:wr.grownBy (wr.alloc (.cells #[.int .i64 0,.bool false] 155)).drew none:=⟨H.os,H.tape,H.output,H.size,H.block⟩;have hD:=b2 _ b6;have g3:=a9 _ b6;have l3:=lG fZ x;have k8:=lG fZ y;obtain ⟨tu,yu,a6⟩:=L.form;obtain ⟨k7,j9,c9⟩:=a4.form;subst a6 c9;simp only [sz] at d9;rcases d2 with ⟨Y,S⟩ | ⟨Y,S⟩
     ·have Z:Hid (ldV (.bin p x y)=.agg #[.int .i64 (if (leadT x).2=true then (leadT x).1 else (leadT x).1+(leadT y).1),.bool (if (leadT x).2=true then (leadT x).2 else (leadT y).2)]):=by
       unfold Hid ldV;simp only [leadT]
       by_cases b1:(leadT x).2=true
       ·rw [if_pos (.inr b1),if_pos b1,if_pos b1]
       ·rw [if_neg (by rintro (h | h);omega;exact b1 h),if_neg b1,if_neg b1]
      obtain ⟨f1,f2,f3,f4,f5,f6,f7,f8,f9,X⟩:=vK (.pointer (some ⟨b,0,none⟩));have hS:∀ W,_:=fun W=>zH (leadT x).1 (leadT y).1 (leadT x).2 (leadT y).2 W (by omega) (by omega);have HS:=bJ hS;clear hS;generalize (if (leadT x).2=true then (leadT x).1 else (leadT x).1+(leadT y).1)=fs at *;generalize (if (leadT x).2=true then (leadT x).2 else (leadT y).2)=es at *;generalize (leadT x).1=fx at *;generalize (leadT y).1=fy at *;generalize (leadT x).2=ex at *;generalize (leadT y).2=ey at *;have h9:=bJ b6;subst S;clear J HN hv M L a4 c0 c1 a7 U b8 a8 b2 a9 H b6
      go_wp2_with fail
      go_region_with (go_at_call 129;refine (HS.out _).mono ?_;rintro e w2 ⟨rfl,g2⟩;have z0:=g2.cell (a:=⟨wr.heap.size,0,none⟩) (v:=.int .i64 0) (by simp [go_sem]) (by simp);have z1:=g2.cell (a:=⟨wr.heap.size,1,none⟩) (v:=.bool false) (by simp [go_sem]) (by simp);have y0:w2.frozen? ⟨wr.heap.size,0,none⟩=false:=(World.frozen?_of_block (g2.block wr.heap.size (by simp) (by simp))).trans (by simp [go_sem]);have y1:w2.frozen? ⟨wr.heap.size,1,none⟩=false:=(World.frozen?_of_block (g2.block wr.heap.size (by simp) (by simp))).trans (by simp [go_sem]))
      all_goals
       have d4:=bJ (aU (aU (aA h9.out g2) (sP w2 ⟨wr.heap.size,0,none⟩ (.int .i64 fs)) (fun j e=>by cases e;exact Nat.le_refl _)) (sP _ ⟨wr.heap.size,1,none⟩ (.bool es)) (fun j e=>by cases e;exact Nat.le_refl _));clear g2 hA g4 hD g3
       go_wp2_with (at_mapUpdate;refine wpList_mapUpdate_node _ rfl _ _ _ 102 rfl 155 underlying102 _ n f rfl (N.out _ d4.out) _ _ rfl rfl (O.out _ d4.out) ?_;intro w1 E G)
       go_roundw
       case rel=>exact ⟨k+1,_,_,by omega,by go_num,E,by rw [<- Z.out];exact D.out,A.out _ (aA HG.out d4.out) _ G⟩
       case measure=>simp [intOf];omega
     ·have Z:Hid (ldV (.bin p x y)=.agg #[.int .i64 (leadT x).1,.bool (leadT x).2]):=(by unfold Hid ldV;simp only [leadT];rw [if_pos (.inl Y)]);obtain ⟨f1,f2,f3,f4,f5,f6,f7,f8,f9,X⟩:=vE (.pointer (some ⟨b,0,none⟩));generalize (leadT x).1=fx at *;generalize (leadT x).2=ex at *;subst S;clear J HN hv M L a4 c0 c1 a7 U b8 a8 b2 a9 hD g3 g4 H b6
      go_wp2_with (at_mapUpdate;refine wpList_mapUpdate_node _ rfl _ _ _ 102 rfl 155 underlying102 _ n f rfl (N.out _ (by first | exact gWA | exact aA gWA gWA)) _ _ rfl rfl (O.out _ (by first | exact gWA | exact aA gWA gWA)) ?_;intro w1 E G)
      go_roundw
      case rel=>exact ⟨k+1,_,_,by omega,by go_num,E,by rw [<- Z.out];exact D.out,A.out _ (aA HG.out (by first | exact gWA | exact aA gWA gWA)) _ G⟩
      case measure=>simp [intOf];omega
  ·have h8:k=l.length:=(by omega);have g6:Hid (uA B w l f ldV):=(by have:=HN.out;rw [h8,List.take_length] at this;exact this);clear HN;go_wp2;go_ret;exact ⟨f,n,rfl,hM,g6.out,M⟩
end Go.Proofs.YtgifkcpdihphlaaGreatDoor
