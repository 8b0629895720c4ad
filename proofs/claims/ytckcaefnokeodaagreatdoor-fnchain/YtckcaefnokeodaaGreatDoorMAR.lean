import Derived.Deep.RegionWith
import Derived.Test.YtckcaefnokeodaaGreatDoorMAQ
set_option maxHeartbeats 16000000
set_option maxRecDepth 100000
namespace Go.Proofs.YtckcaefnokeodaaGreatDoor
open Go.Proofs.Tryz List World
section
open Go.RowKit
def ldV (T:Tr):Value:=.agg #[.int .i64 (leadT T).1,.bool (leadT T).2]
theorem aGZ (T A) (h:Sim T A):ldV T=ldV A:=by unfold ldV;rw [h.leadT]
theorem aAD (a b:Int) (h D:Bool) (w) (J : -1000000<=a/\a<=1000000) (M : -1000000<=b/\b<=1000000) :
  Calls prog 110 #[.agg #[.int .i64 a,.bool h],.agg #[.int .i64 b,.bool D]] w fun e H=>e=.returned (.agg #[.int .i64 (if h=true then a else a+b),.bool (if h=true then h else D)])/\w.grownBy H none:=by
 have E:∀ (G I F:Obj),w.grownBy (((w.alloc G).alloc I).alloc F) none:=fun _ _ _=>aA (aA gWA gWA) gWA;have A:=bL E;clear E;cases h with
 | true=>
   go_enter func110,ntmps110
   go_wp2
   go_returns
   all_goals exact ⟨rfl,A.out _ _ _⟩
 | false=>
   go_enter func110,ntmps110
   go_wp2
   go_returns
   all_goals exact ⟨rfl,A.out _ _ _⟩
theorem aEJ (B nv u0 T0) (l:List Value) (w:World) (b7:w.ownsRow B 63 1 nv l.length l) (hr:Rep (fun _=>False) B w u0 T0) (hp:cU w u0 T0 l) (ho:lY (fun _=>False) w l) (l2:sz T0<=140000) :
  Calls prog 65 #[nv] w fun e w'=>∃ f n,e=.returned (.map (some w.heap.size))/\MapIs w' w.heap.size f n/\uJ B w l f ldV/\w.grownBy w' none:=by
 obtain ⟨a,i7,i0,l5,h8⟩:=aZ b7;subst i0;unfold maxLen at h8;have HR:Hid (w.ownsRow B 63 1 (.slice a l.length i7) l.length l):=b7;have g8:Hid (Rep (fun _=>False) B w u0 T0):=hr;have j0:Hid (cU w u0 T0 l):=hp;have b9:Hid (lY (fun _=>False) w l):=ho;clear b7 hr hp ho
 have l7:(Instr.makeMap 70 (some (.int .i64 (l.length:Int)))).run prog w=.ok (.map (some w.heap.size)) (w.alloc (.map #[] 0)):=by
  simp [Instr.makeMap,run_underlying underlying70,asInt,asIntOf]
 go_enter func65,ntmps65
 go_wp2
 go_loopw [18] (fun i wr=>∃ (k:Nat) (f:Value->Option Value) (n:Nat),k<=l.length/\i=.int .i64 k/\MapIs wr w.heap.size f n/\Hid (uJ B w (l.take k) f ldV)/\w.grownBy wr none) (fun i _=>l.length - (intOf i).toNat)
 case atStart=>exact ⟨0,_,0,Nat.zero_le _,rfl,mapIs_made w,(by intro v hv;simp at hv),gWA⟩
 case round=>
  obtain ⟨k,f,n,hk,rfl,hM,HN,J⟩:=hrel
  by_cases i4:k<l.length
  .obtain ⟨v,hv⟩:∃ v,l[k]?=some v:=⟨_,getElem?_eq_getElem i4⟩;obtain ⟨T,he,H,g6⟩:=lL g8.out j0.out k v hv;have i3:v∈l:=mem_of_getElem? hv;have b8:=(jS b9.out i3 H).K J;have A:=bL (aEM aGZ b9.out hv H HN.out);have l3:=mI gH T;rcases HR.out.2 with ⟨_,h0⟩ | ⟨g,cp,l6,h6,m1,g9,j6,k6,i6,i2⟩
   .omega
   cases h6;have d8:=ownsRow.cellAt HR.out k (by omega);rw [hv] at d8;have m0:=J.cell d8 (by simp);clear d8;have k3:=J.size;have k0:=hM.lt;have HM:=bL hM;have HK:=bL b8;have O:=bL (fun W (hW:wr.grownBy W none)=>hM.K hW);have N:=bL (fun W (hW:wr.grownBy W none)=>b8.K hW);have HG:=bL J;have b4:∀ w1,w.grownBy w1 none->∀ w2,w1.grownBy w2 (some w.heap.size)->w.grownBy w2 none:=fun w1 Z w2 M=>bC Z M (fun j e=>by cases e;exact Nat.le_refl _);have D:=bL b4;have G:wr.grownBy (wr.alloc (.cells #[.int .i64 0,.bool false] 125)) none:=gWA;clear g9 i6 i2 hM b8 b4;cases T with
   | leaf p=>
     have g5:=H;simp only [Rep] at g5;rcases g5 with ⟨Z,M⟩ | ⟨Z,M⟩ | ⟨Z,M⟩ | ⟨Z,M⟩ | ⟨Z,M⟩ | ⟨Z,b,tv,M,_,h4,h5,_⟩
     .have hF:Hid (ldV (.leaf p)=.agg #[.int .i64 0,.bool false]):=(by unfold Hid ldV;simp [leadT,Z]);obtain ⟨f1,f2,f3,f4,f5,f6,f7,f8,f9,S⟩:=pL;subst M;clear H he HN hv J
      go_wp2_with (at_mapUpdate;refine wpList_mapUpdate_node _ rfl _ _ _ 70 rfl 125 underlying70 _ n f rfl (O.out _ (by first | exact gWA | exact aA gWA gWA)) _ _ rfl rfl (N.out _ (by first | exact gWA | exact aA gWA gWA)) ?_;intro w1 F E)
      go_roundw
      case rel=>exact ⟨k+1,_,_,by omega,by go_num,F,by rw [<- hF.out];exact A.out,D.out _ (aA HG.out (by first | exact gWA | exact aA gWA gWA)) _ E⟩
      case measure=>simp [intOf];omega
     .have hF:Hid (ldV (.leaf p)=.agg #[.int .i64 0,.bool true]):=(by unfold Hid ldV;simp [leadT,Z]);obtain ⟨f1,f2,f3,f4,f5,f6,f7,f8,f9,S⟩:=rI;subst M;clear H he HN hv J
      go_wp2_with (at_mapUpdate;refine wpList_mapUpdate_node _ rfl _ _ _ 70 rfl 125 underlying70 _ n f rfl (O.out _ (by first | exact gWA | exact aA gWA gWA)) _ _ rfl rfl (N.out _ (by first | exact gWA | exact aA gWA gWA)) ?_;intro w1 F E)
      go_roundw
      case rel=>exact ⟨k+1,_,_,by omega,by go_num,F,by rw [<- hF.out];exact A.out,D.out _ (aA HG.out (by first | exact gWA | exact aA gWA gWA)) _ E⟩
      case measure=>simp [intOf];omega
     .have hF:Hid (ldV (.leaf p)=.agg #[.int .i64 0,.bool true]):=(by unfold Hid ldV;simp [leadT,Z]);obtain ⟨f1,f2,f3,f4,f5,f6,f7,f8,f9,S⟩:=rY;subst M;clear H he HN hv J
      go_wp2_with (at_mapUpdate;refine wpList_mapUpdate_node _ rfl _ _ _ 70 rfl 125 underlying70 _ n f rfl (O.out _ (by first | exact gWA | exact aA gWA gWA)) _ _ rfl rfl (N.out _ (by first | exact gWA | exact aA gWA gWA)) ?_;intro w1 F E)
      go_roundw
      case rel=>exact ⟨k+1,_,_,by omega,by go_num,F,by rw [<- hF.out];exact A.out,D.out _ (aA HG.out (by first | exact gWA | exact aA gWA gWA)) _ E⟩
      case measure=>simp [intOf];omega
     .have hF:Hid (ldV (.leaf p)=.agg #[.int .i64 0,.bool true]):=(by unfold Hid ldV;simp [leadT,Z]);obtain ⟨f1,f2,f3,f4,f5,f6,f7,f8,f9,S⟩:=wH;subst M;clear H he HN hv J
      go_wp2_with (at_mapUpdate;refine wpList_mapUpdate_node _ rfl _ _ _ 70 rfl 125 underlying70 _ n f rfl (O.out _ (by first | exact gWA | exact aA gWA gWA)) _ _ rfl rfl (N.out _ (by first | exact gWA | exact aA gWA gWA)) ?_;intro w1 F E)
      go_roundw
      case rel=>exact ⟨k+1,_,_,by omega,by go_num,F,by rw [<- hF.out];exact A.out,D.out _ (aA HG.out (by first | exact gWA | exact aA gWA gWA)) _ E⟩
      case measure=>simp [intOf];omega
     .have hF:Hid (ldV (.leaf p)=.agg #[.int .i64 0,.bool true]):=(by unfold Hid ldV;simp [leadT,Z]);obtain ⟨f1,f2,f3,f4,f5,f6,f7,f8,f9,S⟩:=zR;subst M;clear H he HN hv J
      go_wp2_with (at_mapUpdate;refine wpList_mapUpdate_node _ rfl _ _ _ 70 rfl 125 underlying70 _ n f rfl (O.out _ (by first | exact gWA | exact aA gWA gWA)) _ _ rfl rfl (N.out _ (by first | exact gWA | exact aA gWA gWA)) ?_;intro w1 F E)
      go_roundw
      case rel=>exact ⟨k+1,_,_,by omega,by go_num,F,by rw [<- hF.out];exact A.out,D.out _ (aA HG.out (by first | exact gWA | exact aA gWA gWA)) _ E⟩
      case measure=>simp [intOf];omega
     .have hF:Hid (ldV (.leaf p)=.agg #[.int .i64 (aF p.t),.bool false]):=(by unfold Hid ldV;simp [leadT,Z]);obtain ⟨f1,f2,f3,f4,f5,f6,f7,f8,f9,S⟩:=rX (.pointer (some ⟨b,0,none⟩));have c1:wr.cell? ⟨b,1,none⟩=some (.int .i64 (aF p.t)):=J.cell (by simp [cell?,h5]) (by simp);have m2:=G.cell c1 (by simp);clear c1;subst M;clear H he HN hv J h5
      go_wp2_with (at_mapUpdate;refine wpList_mapUpdate_node _ rfl _ _ _ 70 rfl 125 underlying70 _ n f rfl (O.out _ (by first | exact gWA | exact aA gWA gWA)) _ _ rfl rfl (N.out _ (by first | exact gWA | exact aA gWA gWA)) ?_;intro w1 F E)
      go_roundw
      case rel=>exact ⟨k+1,_,_,by omega,by go_num,F,by rw [<- hF.out];exact A.out,D.out _ (aA HG.out (by first | exact gWA | exact aA gWA gWA)) _ E⟩
      case measure=>simp [intOf];omega
   | un p x=>
     obtain ⟨b,u,h7,c0,I,Y,d5⟩:=he;have i5:=G.cell (J.cell c0 (by simp)) (by simp);have a8:u∈l:=mem_of_mem_take Y
     have b6:(Instr.lookup 70 (.map (some w.heap.size)) u false).run prog (wr.alloc (.cells #[.int .i64 0,.bool false] 125))=.ok (.agg #[.int .i64 (leadT x).1,.bool (leadT x).2]) (wr.alloc (.cells #[.int .i64 0,.bool false] 125)):=by
      have:=(HM.out.K G).run_lookup (z:=.agg #[.int .i64 0,.bool false]) underlying70 rfl ((jS b9.out a8 I).K (aA J G));rw [HN.out u Y x I] at this;exact this
     have hF:Hid (ldV (.un p x)=.agg #[.int .i64 (leadT x).1,.bool (leadT x).2]):=rfl;obtain ⟨tu,yu,a7⟩:=I.form;subst a7;simp only [sz] at g6;generalize (leadT x).1=fx at *;generalize (leadT x).2=ex at *;rcases d5 with ⟨Z,M⟩ | ⟨Z,M,h3⟩
     .obtain ⟨f1,f2,f3,f4,f5,f6,f7,f8,f9,S⟩:=pN (.pointer (some ⟨b,0,none⟩));subst M;clear H HN hv J I c0 a8 Y G
      go_wp2_with (at_mapUpdate;refine wpList_mapUpdate_node _ rfl _ _ _ 70 rfl 125 underlying70 _ n f rfl (O.out _ (by first | exact gWA | exact aA gWA gWA)) _ _ rfl rfl (N.out _ (by first | exact gWA | exact aA gWA gWA)) ?_;intro w1 F E)
      go_roundw
      case rel=>exact ⟨k+1,_,_,by omega,by go_num,F,by rw [<- hF.out];exact A.out,D.out _ (aA HG.out (by first | exact gWA | exact aA gWA gWA)) _ E⟩
      case measure=>simp [intOf];omega
     .obtain ⟨f1,f2,f3,f4,f5,f6,f7,f8,f9,S⟩:=rB (.pointer (some ⟨b,0,none⟩));subst M;clear H HN hv J I c0 a8 Y h3 G
      go_wp2_with (at_mapUpdate;refine wpList_mapUpdate_node _ rfl _ _ _ 70 rfl 125 underlying70 _ n f rfl (O.out _ (by first | exact gWA | exact aA gWA gWA)) _ _ rfl rfl (N.out _ (by first | exact gWA | exact aA gWA gWA)) ?_;intro w1 F E)
      go_roundw
      case rel=>exact ⟨k+1,_,_,by omega,by go_num,F,by rw [<- hF.out];exact A.out,D.out _ (aA HG.out (by first | exact gWA | exact aA gWA gWA)) _ E⟩
      case measure=>simp [intOf];omega
   | bin p x y=>
     obtain ⟨b,u,u',h7,c0,c1,I,a5,Y,a9,d5⟩:=he;have i5:=G.cell (J.cell c0 (by simp)) (by simp);have k4:=G.cell (J.cell c1 (by simp)) (by simp);have a8:u∈l:=mem_of_mem_take Y;have b5:u'∈l:=mem_of_mem_take a9
     have b6:∀ W,wr.grownBy W none->(Instr.lookup 70 (.map (some w.heap.size)) u false).run prog W=.ok (.agg #[.int .i64 (leadT x).1,.bool (leadT x).2]) W:=by
      intro W hW;have:=(HM.out.K hW).run_lookup (z:=.agg #[.int .i64 0,.bool false]) underlying70 rfl ((jS b9.out a8 I).K (aA J hW));rw [HN.out u Y x I] at this;exact this
     have b0:∀ W,wr.grownBy W none->(Instr.lookup 70 (.map (some w.heap.size)) u' false).run prog W=.ok (.agg #[.int .i64 (leadT y).1,.bool (leadT y).2]) W:=by
      intro W hW;have:=(HM.out.K hW).run_lookup (z:=.agg #[.int .i64 0,.bool false]) underlying70 rfl ((jS b9.out b5 a5).K (aA J hW));rw [HN.out u' a9 y a5] at this;exact this
     have hA:=b6 _ G;have g1:=b0 _ G;have b3:wr.grownBy (wr.alloc (.cells #[.int .i64 0,.bool false] 125)).drew none:=⟨G.os,G.tape,G.output,G.size,G.block⟩;have hD:=b6 _ b3;have g7:=b0 _ b3;have l4:=mI gH x;have k8:=mI gH y;obtain ⟨tu,yu,a7⟩:=I.form;obtain ⟨l1,l8,d2⟩:=a5.form;subst a7 d2;simp only [sz] at g6;rcases d5 with ⟨Z,M⟩ | ⟨Z,M⟩
     .have hF:Hid (ldV (.bin p x y)=.agg #[.int .i64 (if (leadT x).2=true then (leadT x).1 else (leadT x).1+(leadT y).1),.bool (if (leadT x).2=true then (leadT x).2 else (leadT y).2)]):=by
       unfold Hid ldV;simp only [leadT]
       by_cases b1:(leadT x).2=true
       .rw [if_pos (.inr b1),if_pos b1,if_pos b1]
       .rw [if_neg (by rintro (h | h);omega;exact b1 h),if_neg b1,if_neg b1]
      obtain ⟨f1,f2,f3,f4,f5,f6,f7,f8,f9,S⟩:=vL (.pointer (some ⟨b,0,none⟩));have hS:∀ W,_:=fun W=>aAD (leadT x).1 (leadT y).1 (leadT x).2 (leadT y).2 W (by omega) (by omega);have HS:=bL hS;clear hS;generalize (if (leadT x).2=true then (leadT x).1 else (leadT x).1+(leadT y).1)=fs at *;generalize (if (leadT x).2=true then (leadT x).2 else (leadT y).2)=es at *;generalize (leadT x).1=fx at *;generalize (leadT y).1=fy at *;generalize (leadT x).2=ex at *;generalize (leadT y).2=ey at *;have i1:=bL b3;subst M;clear H HN hv J I a5 c0 c1 a8 Y b5 a9 b6 b0 G b3
      go_wp2_with fail
      go_region_with (go_at_call 110;refine (HS.out _).mono ?_;rintro e w2 ⟨rfl,g2⟩;have z0:=g2.cell (a:=⟨wr.heap.size,0,none⟩) (v:=.int .i64 0) (by simp [go_sem]) (by simp);have z1:=g2.cell (a:=⟨wr.heap.size,1,none⟩) (v:=.bool false) (by simp [go_sem]) (by simp);have y0:w2.frozen? ⟨wr.heap.size,0,none⟩=false:=(frozen?_of_block (g2.block wr.heap.size (by simp) (by simp))).trans (by simp [go_sem]);have y1:w2.frozen? ⟨wr.heap.size,1,none⟩=false:=(frozen?_of_block (g2.block wr.heap.size (by simp) (by simp))).trans (by simp [go_sem]))
      all_goals
       have d6:=bL (bC (bC (aA i1.out g2) (sL w2 ⟨wr.heap.size,0,none⟩ (.int .i64 fs)) (fun j e=>by cases e;exact Nat.le_refl _)) (sL _ ⟨wr.heap.size,1,none⟩ (.bool es)) (fun j e=>by cases e;exact Nat.le_refl _));clear g2 hA g1 hD g7
       go_wp2_with (at_mapUpdate;refine wpList_mapUpdate_node _ rfl _ _ _ 70 rfl 125 underlying70 _ n f rfl (O.out _ d6.out) _ _ rfl rfl (N.out _ d6.out) ?_;intro w1 F E)
       go_roundw
       case rel=>exact ⟨k+1,_,_,by omega,by go_num,F,by rw [<- hF.out];exact A.out,D.out _ (aA HG.out d6.out) _ E⟩
       case measure=>simp [intOf];omega
     .have hF:Hid (ldV (.bin p x y)=.agg #[.int .i64 (leadT x).1,.bool (leadT x).2]):=(by unfold Hid ldV;simp only [leadT];rw [if_pos (.inl Z)]);obtain ⟨f1,f2,f3,f4,f5,f6,f7,f8,f9,S⟩:=xA (.pointer (some ⟨b,0,none⟩));generalize (leadT x).1=fx at *;generalize (leadT x).2=ex at *;subst M;clear H HN hv J I a5 c0 c1 a8 Y b5 a9 b6 b0 hD g7 g1 G b3
      go_wp2_with (at_mapUpdate;refine wpList_mapUpdate_node _ rfl _ _ _ 70 rfl 125 underlying70 _ n f rfl (O.out _ (by first | exact gWA | exact aA gWA gWA)) _ _ rfl rfl (N.out _ (by first | exact gWA | exact aA gWA gWA)) ?_;intro w1 F E)
      go_roundw
      case rel=>exact ⟨k+1,_,_,by omega,by go_num,F,by rw [<- hF.out];exact A.out,D.out _ (aA HG.out (by first | exact gWA | exact aA gWA gWA)) _ E⟩
      case measure=>simp [intOf];omega
  .have i9:k=l.length:=(by omega);have h9:Hid (uJ B w l f ldV):=(by have:=HN.out;rw [i9,take_length] at this;exact this);clear HN;go_wp2;go_ret;exact ⟨f,n,rfl,hM,h9.out,J⟩
end
namespace P
open Go.RowKit Go.Proofs.YtckcaefnokeodaaGreatDoor
inductive NKey (w:World):Value->Prop
 | ptr (b:Nat) (cs:Array Value) (t':TypeId) (hb:w.heap[b]?=some (.cells cs t')):NKey w (.pointer (some ⟨b,0,none⟩))
theorem aFJ (a b:Addr) (w:World):(Op.equal 177 (.pointer (some a)) (.pointer (some b))).run prog w=(sameAddr a b).run prog w:=by kernel_rfl
theorem aDs {w k A} (h:NKey w k) (D:NKey w A):(Op.equal 177 k A).run prog w=.ok (kEq k A) w:=by
 cases h with
 | ptr b cs t hb=>
   cases D with
   | ptr b' cs' t' hb'=>
     rw [aFJ,wL hb hb'];congr 1
theorem oH {w k A} (h:NKey w k) (D:NKey w A):kEq k A=true ↔ k=A:=by
 cases h with
 | ptr b cs t hb=>
   cases D with
   | ptr b' cs' t' hb'=>simp [kEq,jB]
theorem kEq_self {w k} (h:NKey w k):kEq k k=true:=(oH h h).2 rfl
theorem iN {w k} (h:NKey w k):∀ (A:List MapEntry) (i:Nat),(∀ e∈A,NKey w e.key)->(Instr.findAsking 177 k A i).run prog w=.ok (dE k A i) w
 | [],i,_=>by simp [Instr.findAsking,dE]
 | e::A,i,he=>by
   have F:=aDs h (he e (mem_cons_self ..));have D:=iN h A (i+1) (fun x E=>he x (mem_cons_of_mem _ E));simp only [Instr.findAsking,dE,Sem.run_bind,F,Result.andThen_ok];cases kEq k e.key
   .simpa using D
   .simp
theorem mD {w k} (h:NKey w k) (A:List MapEntry) (E:∀ e∈A,NKey w e.key):(Instr.findKey 177 k A).run prog w=.ok (dE k A 0) w:=by
 have D:=iN h A 0 E;unfold Instr.findKey;rw [Sem.run_bind,run_underlying underlying177,Result.andThen_ok];cases A with
 | nil=>simp [Instr.findNow,dE]
 | cons e A=>
   simp only [Instr.findNow,Instr.sameNow];exact D
theorem lA {w k} (h:NKey w k) (e):(Instr.checkKey e 10000 177 k).run prog w=.ok () w:=by
 cases h with
 | ptr b cs t' hb=>kernel_rfl
def MapIs (w:World) (b:Nat) (f:Value->Option Value) (n:Nat):Prop:=
 ∃ es clock,w.heap[b]?=some (.map es clock)/\es.size=n/\(∀ e∈es.toList,NKey w e.key)/\∀ k,(dE k es.toList 0).map (·.2)=f k
theorem mapIs_made (w:World):MapIs (w.alloc (.map #[] 0)) w.heap.size (fun _=>none) 0:=
 ⟨#[],0,heap_alloc_new _ _,rfl,by simp,fun k=>by simp [dE]⟩
theorem MapIs.run_lookup {w b n} {f:Value->Option Value} (h:MapIs w b f n) {t} {e:TypeId} (I:prog.underlying t=some (.map 177 e)) {z:Value} (N:(zeroValue e).run prog w=.ok z w) {k} (G:NKey w k) :
  (Instr.lookup t (.map (some b)) k false).run prog w=.ok ((f k).getD z) w:=by
 obtain ⟨F,E,M,Y,O,S⟩:=h;have D:=mD G F.toList O;have A:=S k;have J:=lA G F.isEmpty;cases H:dE k F.toList 0 with
 | none=>
   rw [H] at A D;simp only [Option.map_none] at A;rw [<- A];simp [Instr.lookup,run_underlying I,MapKept.run_getObj_map M,J,D,N]
 | some x=>
   rw [H] at A D;simp only [Option.map_some] at A;rw [<- A];simp [Instr.lookup,run_underlying I,MapKept.run_getObj_map M,J,D]
theorem MapIs.lt {w b n} {f:Value->Option Value} (h:MapIs w b f n):b<w.heap.size:=by
 obtain ⟨E,A,D,_⟩:=h;exact (Array.getElem?_eq_some_iff.1 D).1
theorem mC {w k k'} {x:Value} (H:NKey w k):∀ (l:List MapEntry) (i:Nat) (v:Value),(∀ e∈l,NKey w e.key)->dE k l 0=some (i,v)->
  (dE k' (l.modify i fun e=>{ e with key:=k,val:=x }) 0).map (·.2)=if kEq k k' then some x else (dE k' l 0).map (·.2)
 | [],i,v,_,h=>by simp [dE] at h
 | e::es,i,v,he,h=>by
   have E:=he e (mem_cons_self ..);simp only [dE] at h;cases A:kEq k e.key with
   | true=>
     rw [A] at h;simp only [if_true,Option.some.injEq,Prod.mk.injEq] at h;obtain ⟨rfl,_⟩:=h;have G:=(oH H E).1 A;rw [modify_zero_cons];simp only [dE];rw [<- G,xL k' k];cases kEq k k'<;>simp
   | false=>
     rw [A] at h;simp only [Bool.false_eq_true,if_false] at h;rw [fB] at h;cases F:dE k es 0 with
     | none=>rw [F] at h;cases h
     | some y=>
       obtain ⟨j,u⟩:=y;rw [F] at h;simp only [Option.map_some,Option.some.injEq,Prod.mk.injEq] at h;obtain ⟨M,O⟩:=h;subst M;have N:=mC (k':=k') (x:=x) H es j u (fun z I=>he z (mem_cons_of_mem _ I)) F;rw [show 0+1=1 from rfl,modify_succ_cons];simp only [dE];cases D:kEq k' e.key with
       | true=>
         have J:kEq k k'=false:=by
          rw [Bool.eq_false_iff];intro h;rw [sM h D] at A;cases A
         simp [J]
       | false=>
         simp only [Bool.false_eq_true,if_false];rw [fB k' _ (0+1),fB k' es (0+1)];simpa [Option.map_map,Function.comp_def] using N
theorem qC {w k} (h:NKey w k):Instr.sameBits 10000 k k=true:=by
 rw [show (10000:Nat)=9998+1+1 from rfl];generalize 9998=d;cases h<;>simp [Instr.sameBits]
theorem xW {w k} (h:NKey w k):(Instr.keyThatStays k k).run prog w=.ok k w:=by
 simp [Instr.keyThatStays,qC h]
theorem vS {w k} (E:NKey w k):∀ (l:List MapEntry) (i:Nat) (v:Value),(∀ e∈l,NKey w e.key)->dE k l 0=some (i,v)->∃ e,l[i]?=some e/\e.key=k
 | [],i,v,_,h=>by simp [dE] at h
 | e::es,i,v,he,h=>by
   simp only [dE] at h;cases D:kEq k e.key with
   | true=>
     rw [D] at h;simp only [if_true,Option.some.injEq,Prod.mk.injEq] at h;obtain ⟨rfl,_⟩:=h;exact ⟨e,rfl,((oH E (he e (mem_cons_self ..))).1 D).symm⟩
   | false=>
     rw [D] at h;simp only [Bool.false_eq_true,if_false] at h;rw [fB] at h;cases A:dE k es 0 with
     | none=>rw [A] at h;cases h
     | some y=>
       obtain ⟨j,u⟩:=y;rw [A] at h;simp only [Option.map_some,Option.some.injEq,Prod.mk.injEq] at h;obtain ⟨H,J⟩:=h;subst H;obtain ⟨d,I,G⟩:=vS E es j u (fun z F=>he z (mem_cons_of_mem _ F)) A;exact ⟨d,by simpa using I,G⟩
theorem NKey.set {w:World} {b:Nat} {E:Array MapEntry} {c:Nat} (A:w.heap[b]?=some (.map E c)) (o) {v} (h:NKey w v):NKey { w with heap:=w.heap.setIfInBounds b o } v:=by
 cases h with
 | ptr b' cs t' hb'=>
   refine .ptr b' cs t' (((MapKept.heap_set A).2 b' fun D=>?_).trans hb');rw [D,A] at hb';cases hb'
theorem NKey.K {w w' v} (h:NKey w v) (A:w.grownBy w' none):NKey w' v:=by
 cases h with
 | ptr b cs t' hb=>exact .ptr b cs t' ((A.block b (Array.getElem?_eq_some_iff.1 hb).1 (by simp)).trans hb)
theorem MapIs.K {w w' b n} {f:Value->Option Value} (h:MapIs w b f n) (E:w.grownBy w' none):MapIs w' b f n:=by
 have D:=h.lt;obtain ⟨H,A,J,G,F,M⟩:=h;exact ⟨H,A,(E.block b D (by simp)).trans J,G,fun e I=>(F e I).K E,M⟩
theorem MapIs.run_update {w b n} {f:Value->Option Value} (h:MapIs w b f n) {t} {e:TypeId} (ht:prog.underlying t=some (.map 177 e)) {k} (M:NKey w k) (x) :
  ∃ w',(Instr.mapUpdate t (.map (some b)) k x).run prog w=.ok () w'/\MapIs w' b (fun A=>if kEq k A then some x else f A) (if (f k).isSome then n else n+1)/\w.grownBy w' (some b):=by
 obtain ⟨J,a9,D,Z,Y,hl⟩:=h;have h1:=mD M J.toList Y;have H:=hl k;have h3:=lA M false;have O:∀ o,w.grownBy { w with heap:=w.heap.setIfInBounds b o } (some b):=fun o=>⟨rfl,rfl,rfl,by simp,fun i _ F=>(MapKept.heap_set D).2 i (fun e=>F (by rw [e]))⟩;cases S:dE k J.toList 0 with
 | none=>
   rw [S] at H h1;simp only [Option.map_none] at H;refine ⟨_,by simp [Instr.mapUpdate,run_underlying ht,MapKept.run_getObj_map D,h3,h1,MapKept.run_setObj_map _ D];rfl,⟨_,_,(MapKept.heap_set D).1,?_,?_,?_⟩,O _⟩
   .rw [<- H];simp [Z]
   .intro z E;rw [Array.toList_push] at E;rcases mem_append.1 E with E | E
    .exact (Y z E).set D _
    .simp only [mem_singleton] at E;subst E;exact M.set D _
   .intro A;rw [Array.toList_push,aBj (w:=w)];have N:=hl A;cases hy:dE A J.toList 0 with
    | none=>
      rw [hy] at N;simp only [Option.map_none] at N;dsimp only;rw [<- N,xL A k];cases kEq k A<;>simp
    | some y=>
      rw [hy] at N;simp only [Option.map_some] at N ⊢
      have e2:kEq k A=false:=by
       rw [Bool.eq_false_iff];intro h
       have Z:∀ (l:List MapEntry) (i:Nat),dE k l i=none->dE A l i=none:=by
        intro l
        induction l with
        | nil=>intro i _;rfl
        | cons d l IH=>
          intro i F;simp only [dE] at F ⊢;cases G:kEq k d.key with
          | true=>rw [G] at F;simp at F
          | false=>
            rw [G] at F;simp only [Bool.false_eq_true,if_false] at F
            have:kEq A d.key=false:=by
             rw [Bool.eq_false_iff];intro H;rw [sM h H] at G;cases G
            rw [this];simp only [Bool.false_eq_true,if_false];exact IH (i+1) F
       rw [Z _ _ S] at hy;cases hy
      rw [e2];simpa using N
 | some y=>
   obtain ⟨i,v⟩:=y;rw [S] at H h1;simp only [Option.map_some] at H;obtain ⟨d,hd,b0⟩:=vS M J.toList i v Y S;have a7:J[i]?=some d:=(by rw [<- Array.getElem?_toList];exact hd);refine ⟨_,by simp [Instr.mapUpdate,run_underlying ht,MapKept.run_getObj_map D,h3,h1,a7,b0,xW M,MapKept.run_setObj_map _ D];rfl,⟨_,_,(MapKept.heap_set D).1,?_,?_,?_⟩,O _⟩
   .rw [<- H];simp [Z]
   .intro z E;rw [Array.toList_modify] at E;obtain ⟨j,I⟩:=mem_iff_getElem?.1 E;rw [getElem?_modify] at I;cases G:J.toList[j]? with
    | none=>rw [G] at I;simp at I
    | some q=>
      rw [G] at I;simp only [Option.map_eq_map,Option.map_some,Option.some.injEq] at I
      split at I
      .subst I;exact M.set D _
      .subst I;exact (Y q (mem_of_getElem? G)).set D _
   .intro A;rw [Array.toList_modify,mC M J.toList i v Y S,hl A]
theorem wpList_mapUpdate_node (w) {F h} {o:Oper} {a:Act} {Q:Exit->Act->World->Prop} (O:o.guard=none) (m x v t) (I:o.op=Op.mapUpdate t m x v) (e:TypeId) (Y:prog.underlying t=some (.map 177 e)) (b:Nat) (n) (f:Value->Option Value) (hm:a.eval m=.map (some b)) (A:MapIs w b f n) (key val:Value) (Z:a.eval x=key) (hv:a.eval v=val) (G:NKey w key) (M:∀ E,MapIs E b (fun J=>if kEq key J then some val else f J) (if (f key).isSome then n else n+1)->w.grownBy E (some b)->wpList prog F Q h (a.put o.dst undef) E) :
  wpList prog F Q (o::h) a w:=by
 refine wpList_plain O fun K' H=>?_;obtain ⟨E,D,N,S⟩:=A.run_update Y G val;unfold Oper.wp;simp [execOp,I,hm,Z,hv,D,Result.andThen];exact H _ _ (M E N S)
theorem MapIs.run_len {w:World} {b n:Nat} {f:Value->Option Value} (h:MapIs w b f n) {t e:TypeId} (F:prog.underlying t=some (.map 177 e)) (D:TypeId):(Builtin.len_ #[t] D #[.map (some b)]).run prog w=.ok (.int .i64 (n:Int)) w:=by
 obtain ⟨I,A,G,E,H,J⟩:=h;simp [Builtin.len_,run_underlying F,MapKept.run_getObj_map G,goInt,Result.andThen,E]
end P
open Go.RowKit
theorem aLu {p:Prop} (h:p):Hid p:=h
def uO (b:Nat):Value:=.iface 177 (.pointer (some ⟨b,0,none⟩))
def isG:Value->Bool
 | .iface t _=>t==177
 | _=>false
def gO (l:List Value):Nat:=(l.filter isG).length
theorem aHu (l:List Value) (v:Value):gO (l++[v])=gO l+if isG v then 1 else 0:=by
 unfold gO;rw [filter_append,length_append];cases h:isG v<;>simp [h]
theorem aAa (l):gO l<=l.length:=length_filter_le _ _
structure aFp (l:List Value) (k:Nat) (f:Value->Option Value):Prop where
 at_:∀ i b,i<k->l[i]?=some (uO b)->f (.pointer (some ⟨b,0,none⟩))=some (.int .i64 (gO (l.take i):Int))
 only:∀ b,f (.pointer (some ⟨b,0,none⟩))≠none->uO b∈l.take k
theorem yS (B nv u0 T0) (l:List Value) (w:World) (N:w.ownsRow B 63 1 nv l.length l) (hr:Rep (fun _=>False) B w u0 T0) (hp:cU w u0 T0 l) (ho:lY (fun _=>False) w l) :
  Calls prog 66 #[nv] w fun e w'=>∃ f,e=.returned (.map (some w.heap.size))/\P.MapIs w' w.heap.size f (gO l)/\aFp l l.length f/\w.grownBy w' none:=by
 obtain ⟨a,d3,c7,h9,c4⟩:=aZ N;subst c7;unfold maxLen at c4;have HR:Hid (w.ownsRow B 63 1 (.slice a l.length d3) l.length l):=N;have c1:Hid (Rep (fun _=>False) B w u0 T0):=hr;have d5:Hid (cU w u0 T0 l):=hp;have b7:Hid (lY (fun _=>False) w l):=ho;clear N hr hp ho;have i2:(Instr.makeMap 71 none).run prog w=.ok (.map (some w.heap.size)) (w.alloc (.map #[] 0)):=run_makeMap _ _
 go_enter func66,ntmps66
 go_wp2
 go_loopw [11] (fun i wr=>∃ (k:Nat) (f:Value->Option Value),k<=l.length/\i=.int .i64 k/\P.MapIs wr w.heap.size f (gO (l.take k))/\Hid (aFp l k f)/\w.grownBy wr none) (fun i _=>l.length - (intOf i).toNat)
 case atStart=>exact ⟨0,_,Nat.zero_le _,rfl,P.mapIs_made w,⟨fun i b h=>by omega,fun b h=>absurd rfl h⟩,gWA⟩
 case round=>
  obtain ⟨k,f,hk,rfl,Y,O,hg⟩:=hrel
  by_cases b6:k<l.length
  .obtain ⟨v,hv⟩:∃ v,l[k]?=some v:=⟨_,getElem?_eq_getElem b6⟩;obtain ⟨T,he,D,h6⟩:=lL c1.out d5.out k v hv;have S:v∈l:=mem_of_getElem? hv;have F:l.take (k+1)=l.take k++[v]:=(by rw [take_add_one,hv];rfl);have E:=aHu (l.take k) v;rw [<- F] at E;have c9:=aAa (l.take k);rw [length_take] at c9;rcases HR.out.2 with ⟨_,h0⟩ | ⟨g,cp,i1,c3,i5,c2,d9,g9,d2,c8⟩
   .omega
   cases c3;have a7:=ownsRow.cellAt HR.out k (by omega);rw [hv] at a7;have m0:=hg.cell a7 (by simp);clear a7 c2 d2 c8;have HM:=aLu Y;have HG:=aLu hg
   by_cases A:isG v=true
   .obtain ⟨b,I⟩:∃ b,v=uO b:=by
     cases T with
     | leaf p=>
       exfalso;simp only [Rep] at D;rcases D with h | h | h | h | h | ⟨_,b,tv,h,_⟩
       .rw [h.2] at A;simp [isG] at A
       .rw [h.2] at A;simp [isG] at A
       .rw [h.2] at A;simp [isG] at A
       .rw [h.2] at A;simp [isG] at A
       .rw [h.2] at A;simp [isG] at A
       .rw [h] at A;simp [isG] at A
     | un p x=>
       simp only [Rep] at D;obtain ⟨b,u,_,_,_,_,h | h⟩:=D
       .exact ⟨b,h.2⟩
       .rw [h.2] at A;simp [isG] at A
     | bin p x y=>
       exfalso;simp only [Rep] at D;obtain ⟨b,u,u',_,_,_,_,_,_,h | h⟩:=D
       .rw [h.2] at A;simp [isG] at A
       .rw [h.2] at A;simp [isG] at A
    have M:uO b ∉ l.take k:=by
     intro hm;have d0:=b7.out.nd;obtain ⟨i,hi⟩:=mem_iff_getElem?.1 hm;have J:i<k:=(by have:=(List.getElem?_eq_some_iff.1 hi).1;simp at this;omega);rw [getElem?_take_of_lt J] at hi;have:=pairwise_iff_getElem.1 d0 i k (by omega) b6 J;have e1:l[i]'(by omega)=uO b:=(List.getElem?_eq_some_iff.1 hi).2;have e2:l[k]=uO b:=(by rw [<- I];exact (List.getElem?_eq_some_iff.1 hv).2);exact this _ b e2 (by rw [e1,e2])
    have b2:f (.pointer (some ⟨b,0,none⟩))=none:=by
     cases hx:f (.pointer (some ⟨b,0,none⟩)) with
     | none=>rfl
     | some y=>exact absurd (O.out.only b (by rw [hx];simp)) M
    have a5:P.NKey wr (.pointer (some ⟨b,0,none⟩)):=by
     rw [I] at S;obtain ⟨_,cs,t',hb⟩:=b7.out.lt _ _ S;exact (P.NKey.ptr b cs t' hb).K hg
    have c0:=aLu a5
    have G:Hid (aFp l (k+1) (fun k'=>if kEq (.pointer (some ⟨b,0,none⟩)) k' then some (.int .i64 (gO (l.take k):Int)) else f k')):=by
     refine ⟨fun i c hi H=>?_,fun c H=>?_⟩
     .by_cases e:i=k
      .subst e;rw [hv,I] at H;have a6:b=c:=(by simpa [uO] using H);subst a6;rw [if_pos (P.kEq_self a5)]
      .have J:i<k:=by omega
       have d1:b≠c:=by
        intro a6;subst a6;refine M (mem_iff_getElem?.2 ⟨i,?_⟩);rw [getElem?_take_of_lt J];exact H
       rw [if_neg (by simp [kEq,jB,d1])];exact O.out.at_ i c J H
     .rw [F]
      by_cases e:b=c
      .subst e;rw [I];exact mem_append_right _ (by simp)
      .rw [if_neg (by simp [kEq,jB,e])] at H;exact mem_append_left _ (O.out.only c H)
    have g2:=Y.run_len underlying71 3
    have Z:(if (f (.pointer (some ⟨b,0,none⟩))).isSome then gO (l.take k) else gO (l.take k)+1)=gO (l.take (k+1)):=by
     rw [b2,E,if_pos A];simp
    have b5:=aLu Z;obtain ⟨f1,f2,f3,f4,f5,f6,f7,f8,f9,h4⟩:=pN (.pointer (some ⟨b,0,none⟩));subst I;unfold uO at *;clear D he O hv hg S Y a5 M b2 Z E F A;generalize gO (l.take k)=ck at *
    go_wp2_with (at_mapUpdate;refine P.wpList_mapUpdate_node _ rfl _ _ _ 71 rfl 3 underlying71 _ ck f rfl HM.out _ _ rfl rfl c0.out ?_;intro w1 c6 c5)
    go_roundw
    case rel=>
     have a9:P.MapIs w1 w.heap.size (fun k'=>if kEq (.pointer (some ⟨b,0,none⟩)) k' then some (.int .i64 (ck:Int)) else f k') (if (f (.pointer (some ⟨b,0,none⟩))).isSome then ck else ck+1):=c6;rw [b5.out] at a9;exact ⟨k+1,_,by omega,by go_num,a9,G.out,bC HG.out c5 (fun j e=>by cases e;exact Nat.le_refl _)⟩
    case measure=>simp [intOf];omega
   .have b1:Hid (gO (l.take (k+1))=gO (l.take k)):=by unfold Hid;rw [E,if_neg A];rfl
    have G:Hid (aFp l (k+1) f):=by
     refine ⟨fun i c hi H=>?_,fun c H=>?_⟩
     .by_cases e:i=k
      .subst e;rw [hv] at H;rw [Option.some.inj H] at A;simp [uO,isG] at A
      .exact O.out.at_ i c (by omega) H
     .rw [F];exact mem_append_left _ (O.out.only c H)
    obtain ⟨t,y,a4,h5⟩:∃ t y,v=.iface t y/\bF t 177 y (.pointer none):=by
     cases T with
     | leaf p=>
       simp only [Rep] at D;rcases D with h | h | h | h | h | ⟨_,b,tv,h,_⟩
       .exact ⟨_,_,h.2,pL.2.2.2.2.2.2.1⟩
       .exact ⟨_,_,h.2,rI.2.2.2.2.2.2.1⟩
       .exact ⟨_,_,h.2,rY.2.2.2.2.2.2.1⟩
       .exact ⟨_,_,h.2,wH.2.2.2.2.2.2.1⟩
       .exact ⟨_,_,h.2,zR.2.2.2.2.2.2.1⟩
       .exact ⟨_,_,h,(rX _).2.2.2.2.2.2.1⟩
     | un p x=>
       simp only [Rep] at D;obtain ⟨b,u,_,_,_,_,h | h⟩:=D
       .rw [h.2] at A;simp [isG] at A
       .exact ⟨_,_,h.2,(rB _).2.2.2.2.2.2.1⟩
     | bin p x y=>
       simp only [Rep] at D;obtain ⟨b,u,u',_,_,_,_,_,_,h | h⟩:=D
       .exact ⟨_,_,h.2,(vL _).2.2.2.2.2.2.1⟩
       .exact ⟨_,_,h.2,(xA _).2.2.2.2.2.2.1⟩
    subst a4;clear D he O hv hg S Y E F A;go_wp2
    go_roundw
    case rel=>exact ⟨k+1,f,by omega,by go_num,by rw [b1.out];exact HM.out,G.out,HG.out⟩
    case measure=>simp [intOf];omega
  .have d4:k=l.length:=by omega
   have b3:Hid (P.MapIs wr w.heap.size f (gO l)/\aFp l l.length f):=by
    have h1:=O.out;rw [d4] at h1 Y;rw [take_length] at Y;exact ⟨Y,h1⟩
   clear O Y;go_wp2;go_ret;exact ⟨f,rfl,b3.out.1,b3.out.2,hg⟩
theorem aIh:(prog.info? 127).map (fun i=>(i.zero,i.size,i.bytes))=some (some (.agg #[.nilIface,.int .i64 0,.bool false,.int .i64 0,.bool false]),5,48):=by kernel_rfl
structure Tk where
 v:Value
 T:Tr
 n:Nat
 ind:Int
 fl:Bool
 bw:Int
 be:Bool
def Tk.val (t:Tk):Value:=.agg #[t.v,.int .i64 t.ind,.bool t.fl,.int .i64 t.bw,.bool t.be]
def Tk.cells (t:Tk):List Value:=[t.v,.int .i64 t.ind,.bool t.fl,.int .i64 t.bw,.bool t.be]
def iA:List Tk->List Value
 | []=>[]
 | t::r=>t.cells++iA r
theorem qR:∀ (r:List Tk),(iA r).length=r.length*5
 | []=>rfl
 | t::r=>by simp only [iA,length_append,qR r,Tk.cells,length_cons,length_nil];omega
theorem pX:∀ (r s:List Tk),iA (r++s)=iA r++iA s
 | [],s=>rfl
 | t::r,s=>by simp only [cons_append,iA,pX r s,append_assoc]
theorem aAC (t:Tk):iA [t]=t.cells:=by simp [iA]
structure Pr (pb:Nat) (w0 w:World) (a0 a1 a2 a3 wv tv hv:Value) (ts:List Tk) (tx:List Int) (col:Int) (ch:List Int):Prop where
 bel:Below pb w0 w
 c0:w.cell? ⟨pb,0,none⟩=some a0
 c1:w.cell? ⟨pb,1,none⟩=some a1
 c2:w.cell? ⟨pb,2,none⟩=some a2
 c3:w.cell? ⟨pb,3,none⟩=some a3
 c4:w.cell? ⟨pb,4,none⟩=some wv
 c5:w.cell? ⟨pb,5,none⟩=some tv
 c6:w.cell? ⟨pb,6,none⟩=some (.int .i64 col)
 c7:w.cell? ⟨pb,7,none⟩=some hv
 fz:∀ j,w.frozen? ⟨pb,j,none⟩=false
 wrow:w.ownsRow (pb+1) 127 5 wv ts.length (iA ts)
 trow:OwB (pb+1) w tv tx
 hrow:OwI (pb+1) w hv ch
 dwt:∀ g,wv.ownBlock=some g->tv.ownBlock≠some g
 dwh:∀ g,wv.ownBlock=some g->hv.ownBlock≠some g
 dth:∀ g,tv.ownBlock=some g->hv.ownBlock≠some g
section
variable {pb:Nat} {w0 w:World} {a0 a1 a2 a3 wv tv hv:Value} {ts:List Tk} {tx:List Int} {col:Int} {ch:List Int}
theorem Pr.lt (h:Pr pb w0 w a0 a1 a2 a3 wv tv hv ts tx col ch):pb<w.heap.size:=block_lt_of_cell? w _ h.c0
theorem oD {w D:World} {pb:Nat} (A:pb<w.heap.size) {r:Option Nat} (E:w.grownBy D r) (F:r≠some pb) (h:∀ j,w.frozen? ⟨pb,j,none⟩=false):∀ j,D.frozen? ⟨pb,j,none⟩=false:=
 fun j=>(frozen?_of_block (E.block pb A (fun e=>F e.symm))).trans (h j)
theorem fT {B:Nat} {w E:World} {e:TypeId} {A n:Nat} {v:Value} {D:List Value} {r:Option Nat} (h:w.ownsRow B e A v n D) (F:w.grownBy E r) (G:∀ g,v.ownBlock=some g->r≠some g):E.ownsRow B e A v n D:=
 ownsRow.kept h F (by
  cases hv:v.ownBlock with
  | none=>exact .inl rfl
  | some k=>exact .inr fun e=>G k hv e.symm)
theorem Pr.K (h:Pr pb w0 w a0 a1 a2 a3 wv tv hv ts tx col ch) {w':World} (A:w.grownBy w' none):Pr pb w0 w' a0 a1 a2 a3 wv tv hv ts tx col ch:=
 ⟨h.bel.grown A (Nat.le_of_lt h.lt) (fun k e=>by cases e),A.cell h.c0 (by simp),A.cell h.c1 (by simp),A.cell h.c2 (by simp),A.cell h.c3 (by simp),A.cell h.c4 (by simp),A.cell h.c5 (by simp),A.cell h.c6 (by simp),A.cell h.c7 (by simp),
  oD h.lt A (by simp) h.fz,fT h.wrow A (by simp),fT h.trow A (by simp),fT h.hrow A (by simp),h.dwt,h.dwh,h.dth⟩
theorem Pr.work (h:Pr pb w0 w a0 a1 a2 a3 wv tv hv ts tx col ch) {w1:World} {wv':Value} {G:List Tk} (D:w.grownBy w1 wv.ownBlock) (E:w1.ownsRow (pb+1) 127 5 wv' G.length (iA G))
  (a5:wv'.ownBlock=wv.ownBlock\/∃ g,wv'.ownBlock=some g/\w.heap.size<=g):Pr pb w0 (w1.setCell ⟨pb,4,none⟩ wv') a0 a1 a2 a3 wv' tv hv G tx col ch:=by
 have J:=h.lt;have M:=ownsRow.lt h.wrow;have O:=ownsRow.lt h.trow;have N:=ownsRow.lt h.hrow;have hn:wv.ownBlock≠some pb:=fun e=>by have:=M pb e;omega
 have A:some pb≠wv.ownBlock:=fun e=>hn e.symm;have Y:∀ g,wv'.ownBlock=some g->pb+1<=g:=fun g e=>(ownsRow.lt E g e).1;have d0:=D.cell h.c0 A;have d1:=D.cell h.c1 A;have d2:=D.cell h.c2 A;have d3:=D.cell h.c3 A;have d4:=D.cell h.c4 A;have d5:=D.cell h.c5 A;have d6:=D.cell h.c6 A;have d7:=D.cell h.c7 A;have S:=oD J D hn h.fz
 have F:∀ (v:Value),(∀ g,v.ownBlock=some g->g<w.heap.size)->(∀ g,wv.ownBlock=some g->v.ownBlock≠some g)->∀ g,wv'.ownBlock=some g->v.ownBlock≠some g:=by
  intro v Z a4 g H I;rcases a5 with e | ⟨g',e,b2⟩
  .exact a4 g (by rw [<- e];exact H) I
  .rw [H] at e;cases e;have:=Z g I;omega
 refine ⟨(h.bel.grown D (Nat.le_of_lt J) (fun k e=>by have:=M k e;omega)).setCell (p:=⟨pb,4,none⟩) (Nat.le_refl _) _,by simp [go_sem,d0],by simp [go_sem,d1],by simp [go_sem,d2],by simp [go_sem,d3],by simp [go_sem,d4],by simp [go_sem,d5],by simp [go_sem,d6],by simp [go_sem,d7],fun j=>by simpa using S j,?_,?_,?_,?_,?_,h.dth⟩
 .exact dP E _ _ (fun e=>by have:=Y pb e;omega)
 .exact dP (fT h.trow D (fun g H I=>h.dwt g I H)) _ _ (fun e=>by have:=O pb e;omega)
 .exact dP (fT h.hrow D (fun g H I=>h.dwh g I H)) _ _ (fun e=>by have:=N pb e;omega)
 .exact F tv (fun g e=>(O g e).2) h.dwt
 .exact F hv (fun g e=>(N g e).2) h.dwh
theorem Pr.X (h:Pr pb w0 w a0 a1 a2 a3 wv tv hv ts tx col ch) {w1:World} {tv':Value} {tx':List Int} (D:w.grownBy w1 tv.ownBlock) (G:OwB (pb+1) w1 tv' tx')
  (a4:tv'.ownBlock=tv.ownBlock\/∃ g,tv'.ownBlock=some g/\w.heap.size<=g):Pr pb w0 (w1.setCell ⟨pb,5,none⟩ tv') a0 a1 a2 a3 wv tv' hv ts tx' col ch:=by
 have I:=h.lt;have J:=ownsRow.lt h.wrow;have N:=ownsRow.lt h.trow;have M:=ownsRow.lt h.hrow;have hn:tv.ownBlock≠some pb:=fun e=>by have:=N pb e;omega
 have A:some pb≠tv.ownBlock:=fun e=>hn e.symm;have S:∀ g,tv'.ownBlock=some g->pb+1<=g:=fun g e=>(ownsRow.lt G g e).1;have d0:=D.cell h.c0 A;have d1:=D.cell h.c1 A;have d2:=D.cell h.c2 A;have d3:=D.cell h.c3 A;have d4:=D.cell h.c4 A;have d5:=D.cell h.c5 A;have d6:=D.cell h.c6 A;have d7:=D.cell h.c7 A;have O:=oD I D hn h.fz
 have H:∀ (v:Value),(∀ g,v.ownBlock=some g->g<w.heap.size)->(∀ g,tv.ownBlock=some g->v.ownBlock≠some g)->∀ g,tv'.ownBlock=some g->v.ownBlock≠some g:=by
  intro v Y Z g E F;rcases a4 with e | ⟨g',e,b1⟩
  .exact Z g (by rw [<- e];exact E) F
  .rw [E] at e;cases e;have:=Y g F;omega
 refine ⟨(h.bel.grown D (Nat.le_of_lt I) (fun k e=>by have:=N k e;omega)).setCell (p:=⟨pb,5,none⟩) (Nat.le_refl _) _,by simp [go_sem,d0],by simp [go_sem,d1],by simp [go_sem,d2],by simp [go_sem,d3],by simp [go_sem,d4],by simp [go_sem,d5],by simp [go_sem,d6],by simp [go_sem,d7],fun j=>by simpa using O j,?_,?_,?_,?_,h.dwh,?_⟩
 .exact dP (fT h.wrow D (fun g E F=>h.dwt g E F)) _ _ (fun e=>by have:=J pb e;omega)
 .exact dP G _ _ (fun e=>by have:=S pb e;omega)
 .exact dP (fT h.hrow D (fun g E F=>h.dth g F E)) _ _ (fun e=>by have:=M pb e;omega)
 .exact fun g E F=>H wv (fun g e=>(J g e).2) (fun g E F=>h.dwt g F E) g F E
 .exact H hv (fun g e=>(M g e).2) h.dth
theorem Pr.column (h:Pr pb w0 w a0 a1 a2 a3 wv tv hv ts tx col ch) (c:Int):Pr pb w0 (w.setCell ⟨pb,6,none⟩ (.int .i64 c)) a0 a1 a2 a3 wv tv hv ts tx c ch:=by
 have A:=ownsRow.lt h.wrow;have E:=ownsRow.lt h.trow;have D:=ownsRow.lt h.hrow;have J:=h.c0;have M:=h.c1;have H:=h.c2;have S:=h.c3;have O:=h.c4;have G:=h.c5;have I:=h.c6;have N:=h.c7;have F:=h.fz
 exact ⟨h.bel.setCell (p:=⟨pb,6,none⟩) (Nat.le_refl _) _,by simp [go_sem,J],by simp [go_sem,M],by simp [go_sem,H],by simp [go_sem,S],by simp [go_sem,O],by simp [go_sem,G],by simp [go_sem,I],by simp [go_sem,N],fun j=>by simpa using F j,
  dP h.wrow _ _ (fun e=>by have:=A pb e;omega),dP h.trow _ _ (fun e=>by have:=E pb e;omega),dP h.hrow _ _ (fun e=>by have:=D pb e;omega),h.dwt,h.dwh,h.dth⟩
theorem Pr.aside (h:Pr pb w0 w a0 a1 a2 a3 wv tv hv ts tx col ch) (k j:Nat) (x:Value) (I:pb<k) (E:wv.ownBlock≠some k) (F:tv.ownBlock≠some k) (G:hv.ownBlock≠some k):Pr pb w0 (w.setCell ⟨k,j,none⟩ x) a0 a1 a2 a3 wv tv hv ts tx col ch:=by
 have D:=sL w ⟨k,j,none⟩ x;have A:some pb≠some k:=fun e=>by cases e;omega
 exact ⟨h.bel.setCell (p:=⟨k,j,none⟩) (by simp only;omega) _,D.cell h.c0 A,D.cell h.c1 A,D.cell h.c2 A,D.cell h.c3 A,D.cell h.c4 A,D.cell h.c5 A,D.cell h.c6 A,D.cell h.c7 A,fun H=>by simpa using h.fz H,
  dP h.wrow _ _ E,dP h.trow _ _ F,dP h.hrow _ _ G,h.dwt,h.dwh,h.dth⟩
theorem Pr.choice {g E l:Nat} (h:Pr pb w0 w a0 a1 a2 a3 wv tv (.slice (some ⟨g,0,none⟩) l E) ts tx col ch) (N:l=ch.length) (j:Nat) (x:Int) :
  Pr pb w0 (w.setCell ⟨g,j,none⟩ (.int .i64 x)) a0 a1 a2 a3 wv tv (.slice (some ⟨g,0,none⟩) l E) ts tx col (ch.set j x):=by
 have F:=h.lt;have J:=ownsRow.lt h.hrow g rfl;subst N;have M:w.ownsRow (pb+1) 3 1 (.slice (some ⟨g,0,none⟩) ch.length E) ch.length (ch.map (Value.int .i64)):=h.hrow;obtain ⟨I,D⟩:=ownsRow.stored M j (.int .i64 x);have A:some pb≠some g:=fun e=>by cases e;omega
 refine ⟨h.bel.setCell (p:=⟨g,j,none⟩) (by simp only;omega) _,D.cell h.c0 A,D.cell h.c1 A,D.cell h.c2 A,D.cell h.c3 A,D.cell h.c4 A,D.cell h.c5 A,D.cell h.c6 A,D.cell h.c7 A,oD F D (fun e=>A e.symm) h.fz,
  fT h.wrow D (fun k H G=>h.dwh k H G),fT h.trow D (fun k H G=>h.dth k H G),?_,h.dwt,h.dwh,h.dth⟩
 unfold OwI Ow;rw [map_set,length_set];exact I
end
end Go.Proofs.YtckcaefnokeodaaGreatDoor
