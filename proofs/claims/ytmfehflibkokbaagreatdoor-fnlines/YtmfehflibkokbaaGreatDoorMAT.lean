import Derived.Laws.AppendOwnNone
import Derived.Test.YtmfehflibkokbaaGreatDoorMAH
set_option maxHeartbeats 16000000
set_option maxRecDepth 100000
namespace Go.Proofs.YtmfehflibkokbaaGreatDoor
open Go.Proofs.Tryz
open Go.RowKit
theorem aBR (p:Int) (h:bW p=true):1<=cK p/\cK p<=4:=by
 unfold cK;rw [if_pos h];split<;>(try split)<;>(try split)<;>omega
theorem aAo {p:Int} (h:bW p=true) (y:cK p=1):p<128:=by
 unfold cK at y;rw [if_pos h] at y;split at y
 ·assumption
 ·split at y<;>(try split at y)<;>omega
theorem aAq {p:Int} (h:bW p=true) (y:cK p=2):¬ p<128/\p<2048:=by
 unfold cK at y;rw [if_pos h] at y;split at y
 ·omega
 ·split at y<;>(try split at y)<;>omega
theorem tK {p:Int} (h:bW p=true) (y:cK p=3):¬ p<2048/\p<65536:=by
 unfold cK at y;rw [if_pos h] at y;split at y
 ·omega
 ·split at y<;>(try split at y)<;>omega
theorem wO {p:Int} (h:bW p=true) (y:cK p=4):¬ p<65536:=by
 unfold cK at y;rw [if_pos h] at y;split at y
 ·omega
 ·split at y<;>(try split at y)<;>omega
theorem uN {B:Nat} {w A:World} {D:Value} {xs:List Int} {x:Int} (E:B<=w.heap.size) (n:Nat)
  (h:A.ownsRow B 5 1 D n ([.int .u8 x]++xs.map (Value.int .u8))) (G:n=xs.length+1) (y:(w.alloc (.cells #[.int .u8 x] 5)).grownBy A (Value.slice (some ⟨w.heap.size,0,none⟩) 1 1).ownBlock) :
  OwB B A D (x::xs)/\Below B w A:=by
 subst G;exact ⟨by simpa [Ow] using h,((Below.refl B w).alloc E _).grown y (by simp;omega) (fun k J=>by cases J;exact E)⟩
theorem nI (p:Int) (n:Nat) (f:Int) (w:World) (h0:0<=p) (h1:p<=1114111) (hn:cK p=n) (d4:2<=n) (d6:n<=4) (hf:f=if n=2 then 192 else if n=3 then 224 else 240) (hx:0<=f+(st (n - 1) p).1/\f+(st (n - 1) p).1<256) :
  Calls prog 109 #[.int .i64 p] w fun e w'=>∃ v',e=.returned v'/\OwB w.heap.size w' v' ((f+(st (n - 1) p).1)::(st (n - 1) p).2)/\Below w.heap.size w w':=by
 obtain ⟨i0,hi,a4,Y,a5⟩:=info_parts mF;have d0:((n:Int)==1)=false:=(by simp;omega);have HN:Hid (cK p=n):=hn;clear hn
 go_enter func109,ntmps109
 go_wp2_with (go_at_call 61;refine (mJ _ _).mono ?_;rintro e w' ⟨rfl,rfl⟩;rw [HN.out])
 go_loopw [0,4,5] (fun x t i wr=>∃ k:Nat,k+1<=n/\i=.int .i64 ((k:Int)+1)/\x=.int .i64 (st k p).1/\OwB w.heap.size wr t (st k p).2/\(k=0->t=.slice none 0 0)/\Below w.heap.size w wr)
  (fun _ _ i _=>n - (intOf i).toNat)
 case atStart=>exact ⟨0,by omega,rfl,rfl,World.ownsRow_nil _ _ _ _,fun _=>rfl,Below.refl _ _⟩
 case round=>
  obtain ⟨k,hk,rfl,rfl,D,O,G⟩:=hrel;have a6:=aL0 k p h0 h1;have U:=aLx k p
  by_cases d5:k+1<n
  ·have HS:Hid (st (k+1) p=((st k p).1 / 64,(128+(st k p).1%64)::(st k p).2)):=rfl;have E:=World.ownsRow_lit (base:=w.heap.size) (e:=5) (size:=1) wr #[.int .u8 (128+(st k p).1%64)] 1 G.size (by unfold maxLen;omega) rfl;generalize (st k p).1=x at a6 HS E;generalize (st k p).2=ts at U D HS;obtain ⟨c2,c0⟩:=a6;have hm:(128+x%64)%256=128+x%64:=by omega
   by_cases a9:k=0
   ·have c5:ts=[]:=List.eq_nil_of_length_eq_zero (by omega);subst c5;rw [O a9];clear O U
    go_wp2_with (at_builtin;refine wpList_append_own_none rfl _ _ 22 rfl w.heap.size 5 i0 1 underlying22 hi _ _ _ rfl E rfl ?_)
    go_roundw
    case rel=>exact ⟨1,by omega,rfl,by subst a9;rw [HS.out],by subst a9;rw [HS.out];exact E,fun h=>by omega,G.alloc G.size _⟩
    case measure=>simp [intOf];omega
   ·have a7:∃ g cap,∃ t',t'=Value.slice (some ⟨g,0,none⟩) ts.length cap/\t'=u4:=by
     rcases D.2 with ⟨_,h⟩ | ⟨g,cap,c3,h,_⟩
     ·omega
     ·exact ⟨g,cap,_,rfl,h.symm⟩
    obtain ⟨g,cap,t',N,M⟩:=a7;rw [<- M] at D;rw [<- M,N];rw [N] at D;clear M N O;have J:=World.ownsRow.cells (World.ownsRow.alloc D (.cells #[.int .u8 (128+x%64)] 5)) (g:=g) rfl
    go_wp2_with (at_builtin;refine wpList_append_own _ rfl _ _ 22 rfl w.heap.size 5 i0 (.int .u8 0) 1 1 underlying22 hi a4 Y a5 rfl (by decide) _ _ _ rfl E ⟨g,0,none⟩ ts.length cap (ts.map (Value.int .u8)) rfl (by simp) J (ints_oneCell _ _) (by unfold maxLen;omega) (by omega) (by have:=G.size;simp;omega) ?_;intro v' w1 y A _)
    have R:=uN G.size _ y (by omega) A;clear y A D J E;go_wp2
    go_roundw
    case rel=>exact ⟨k+1,by omega,by go_num,by rw [HS.out],by rw [HS.out];exact R.1,fun h=>by omega,G.trans R.2⟩
    case measure=>simp [intOf];omega
  ·have Z:k=n - 1:=(by omega);rw [<- Z] at hx;generalize b6:(st k p).1=x at a6 hx;generalize b7:(st k p).2=ts at U D;have b1:Hid ((st (n - 1) p).1=x):=(by unfold Hid;rw [<- Z];exact b6);have a8:Hid ((st (n - 1) p).2=ts):=by unfold Hid;rw [<- Z];exact b7
   have a7:∃ g cap,∃ t',t'=Value.slice (some ⟨g,0,none⟩) ts.length cap/\t'=u4:=by
    rcases D.2 with ⟨_,h⟩ | ⟨g,cap,c3,h,_⟩
    ·omega
    ·exact ⟨g,cap,_,rfl,h.symm⟩
   obtain ⟨g,cap,t',N,M⟩:=a7;rw [<- M] at D;rw [<- M,N];rw [N] at D;have J:=fun X=>World.ownsRow.cells (World.ownsRow.alloc D (.cells #[.int .u8 X] 5)) (g:=g) rfl;have E:=fun X=>World.ownsRow_lit (base:=w.heap.size) (e:=5) (size:=1) wr #[.int .u8 X] 1 G.size (by unfold maxLen;omega) rfl;clear M N O b6 b7 Z;obtain ⟨c2,c0⟩:=a6;obtain ⟨d7,d8⟩:=hx
   by_cases h3:n=3
   ·have S:f=224:=(by rw [hf,if_neg (by omega),if_pos h3]);have t3:((n:Int)==3)=true:=(by simp;omega);have t4:((n:Int)==4)=false:=(by simp;omega);subst S;clear h3 hf;have hm:(224+x)%256=224+x:=by omega
    go_wp2_with (at_builtin;refine wpList_append_own _ rfl _ _ 22 rfl w.heap.size 5 i0 (.int .u8 0) 1 1 underlying22 hi a4 Y a5 rfl (by decide) _ _ _ rfl (E (224+x)) ⟨g,0,none⟩ ts.length cap (ts.map (Value.int .u8)) rfl (by simp) (J (224+x)) (ints_oneCell _ _) (by unfold maxLen;omega) (by omega) (by have:=G.size;simp;omega) ?_;intro v' w1 y A _)
    have R:=uN G.size _ y (by omega) A;clear y A D J E;go_wp2;go_ret;exact ⟨_,rfl,by rw [b1.out,a8.out];exact R.1,G.trans R.2⟩
   ·by_cases h4:n=4
    ·have S:f=240:=(by rw [hf,if_neg (by omega),if_neg h3]);have t3:((n:Int)==3)=false:=(by simp;omega);have t4:((n:Int)==4)=true:=(by simp;omega);subst S;clear h3 hf h4;have hm:(240+x)%256=240+x:=by omega
     go_wp2_with (at_builtin;refine wpList_append_own _ rfl _ _ 22 rfl w.heap.size 5 i0 (.int .u8 0) 1 1 underlying22 hi a4 Y a5 rfl (by decide) _ _ _ rfl (E (240+x)) ⟨g,0,none⟩ ts.length cap (ts.map (Value.int .u8)) rfl (by simp) (J (240+x)) (ints_oneCell _ _) (by unfold maxLen;omega) (by omega) (by have:=G.size;simp;omega) ?_;intro v' w1 y A _)
     have R:=uN G.size _ y (by omega) A;clear y A D J E;go_wp2;go_ret;exact ⟨_,rfl,by rw [b1.out,a8.out];exact R.1,G.trans R.2⟩
    ·have S:f=192:=(by rw [hf,if_pos (by omega)]);have t3:((n:Int)==3)=false:=(by simp;omega);have t4:((n:Int)==4)=false:=(by simp;omega);subst S;clear h3 hf h4;have hm:(192+x)%256=192+x:=by omega
     go_wp2_with (at_builtin;refine wpList_append_own _ rfl _ _ 22 rfl w.heap.size 5 i0 (.int .u8 0) 1 1 underlying22 hi a4 Y a5 rfl (by decide) _ _ _ rfl (E (192+x)) ⟨g,0,none⟩ ts.length cap (ts.map (Value.int .u8)) rfl (by simp) (J (192+x)) (ints_oneCell _ _) (by unfold maxLen;omega) (by omega) (by have:=G.size;simp;omega) ?_;intro v' w1 y A _)
     have R:=uN G.size _ y (by omega) A;clear y A D J E;go_wp2;go_ret;exact ⟨_,rfl,by rw [b1.out,a8.out];exact R.1,G.trans R.2⟩
theorem aCd (p:Int) (w:World) (E:0<=p) (G:p<128) (y:cK p=1) :
  Calls prog 109 #[.int .i64 p] w fun e w'=>∃ A,e=.returned A/\OwB w.heap.size w' A [p]/\Below w.heap.size w w':=by
 have D:Hid (cK p=1):=y;clear y;have J:p%256=p:=(by omega);have h:=World.ownsRow_lit (base:=w.heap.size) (e:=5) (size:=1) w #[.int .u8 p] 1 (Nat.le_refl _) (by unfold maxLen;omega) rfl
 go_enter func109,ntmps109
 go_wp2_with (go_at_call 61;refine (mJ _ _).mono ?_;rintro e w' ⟨rfl,rfl⟩;rw [D.out])
 go_ret;exact ⟨_,rfl,h,(Below.refl _ _).alloc (Nat.le_refl _) _⟩
theorem aCK (p:Int) (w:World) (h:bW p=true) :
  Calls prog 109 #[.int .i64 p] w fun e w'=>∃ M,e=.returned M/\OwB w.heap.size w' M (enc p)/\Below w.heap.size w w':=by
 obtain ⟨⟨A,D⟩,S⟩:=aE5 h;have O:=aBR p h
 by_cases J:cK p=1
 ·have y:=aAo h J;rw [wB p y];exact aCd p w A y J
 ·by_cases N:cK p=2
  ·have y:=aAq h N;rw [<- st2 p y.1 y.2];exact nI p 2 192 w A D N (by omega) (by omega) rfl (by simp only [st];omega)
  ·by_cases G:cK p=3
   ·have y:=tK h G;rw [<- st3 p y.1 y.2];exact nI p 3 224 w A D G (by omega) (by omega) rfl (by simp only [st];omega)
   ·have E:cK p=4:=(by omega);have y:=wO h E;rw [<- st4 p y];exact nI p 4 240 w A D E (by omega) (by omega) rfl (by simp only [st];omega)
theorem aG9 {s:List Int} (M:1<=s.length) (J:(0:Int)<=s[0]?.getD 0) (D:s[0]?.getD 0<128):aL s=1/\lv s 1=s[0]?.getD 0:=by
 have A:lv s 1=s[0]?.getD 0:=by
  rw [jL M (by rw [lC _ D];omega),lC _ D];rfl
 have E:bW (s[0]?.getD 0)=true:=(by simp [bW];omega);have h:cK (s[0]?.getD 0)=1:=(by unfold cK;rw [if_pos E,if_pos D]);have y:hit s 1=true:=(fH A J).2 h;refine ⟨?_,A⟩;rw [bN (n:=1) (by omega) (by omega) (fun m O N G=>cI (aA1 J D m O N G)),if_pos y]
theorem aLo {s:List Int} {y:Int} (E:s[0]?.getD 0 / 32=6) (S:eD s 1) (N:y=s[0]?.getD 0%32*64+s[1]?.getD 0%64) (J:0<=y) (O:cK y=2):aL s=2/\lv s 2=y:=by
 have A:lv s 2=y:=(by rw [N];exact lv2 E S);have h:hit s 2=true:=(fH A J).2 O;refine ⟨?_,A⟩;rw [bN (n:=2) (by omega) (by omega) (fun m M G D=>cI (oC E m M G D)),if_pos h]
theorem aH9 {s:List Int} {y:Int} (E:s[0]?.getD 0 / 16=14) (S:eD s 1) (U:eD s 2) (N:y=(s[0]?.getD 0%16*64+s[1]?.getD 0%64)*64+s[2]?.getD 0%64) (J:0<=y) (O:cK y=3):aL s=3/\lv s 3=y:=by
 have A:lv s 3=y:=(by rw [N];exact lv3 E S U);have h:hit s 3=true:=(fH A J).2 O;refine ⟨?_,A⟩;rw [bN (n:=3) (by omega) (by omega) (fun m M G D=>cI (lZ E m M G D)),if_pos h]
theorem aJ3 {s:List Int} {y:Int} (E:s[0]?.getD 0 / 8=30) (S:eD s 1) (X:eD s 2) (U:eD s 3)
  (N:y=((s[0]?.getD 0%8*64+s[1]?.getD 0%64)*64+s[2]?.getD 0%64)*64+s[3]?.getD 0%64) (J:0<=y) (O:cK y=4):aL s=4/\lv s 4=y:=by
 have A:lv s 4=y:=(by rw [N];exact lv4 E S X U);have h:hit s 4=true:=(fH A J).2 O;refine ⟨?_,A⟩;rw [bN (n:=4) (by omega) (by omega) (fun m M G D=>cI (kJ E m M G D)),if_pos h]
theorem aKr (p:Int) (r:List Int) (h:bW p=true):aL (enc p++r)=(enc p).length/\lv (enc p++r) (enc p).length=p:=by
 obtain ⟨⟨A,M⟩,O⟩:=aE5 h;have N:=aBR p h
 by_cases J:cK p=1
 ·have y:=aAo h J;rw [wB p y];have:=aG9 (s:=[p]++r) (by simp) (by simpa using A) (by simpa using y);simpa using this
 ·by_cases G:cK p=2
  ·have y:=aAq h G;rw [aEM p y.1 y.2];refine aLo (by simp;omega) ⟨by simp,by simp;omega⟩ (by simp;omega) A G
  ·by_cases E:cK p=3
   ·have y:=tK h E;rw [aEr p y.1 y.2];refine aH9 (by simp;omega) ⟨by simp,by simp;omega⟩ ⟨by simp,by simp;omega⟩ (by simp;omega) A E
   ·have D:cK p=4:=(by omega);have y:=wO h D;rw [aEV p y];refine aJ3 (by simp;omega) ⟨by simp,by simp;omega⟩ ⟨by simp,by simp;omega⟩ ⟨by simp,by simp;omega⟩ (by simp;omega) A D
theorem aFd:∀ (q:List Int) (f k:Nat),q.all bW=true->(aP q).length<=f->pts f (aP q)=q/\err f (aP q) k=none
 | [],f,k,_,_=>by simp [aP,aBY,aE7]
 | p::q,f,k,h,hf=>by
   simp only [List.all_cons,Bool.and_eq_true] at h;have e:aP (p::q)=enc p++aP q:=(by simp [aP]);have E:=xO p;rw [e] at hf ⊢;rw [List.length_append] at hf;obtain ⟨D,rfl⟩:∃ D,f=D+1:=⟨f - 1,by omega⟩;have A:=aKr p (aP q) h.1;have y:enc p++aP q≠[]:=fun h=>by have:=congrArg List.length h;simp at this;rw [this.1] at E;simp at E
   have G:aL (enc p++aP q)≠0:=(by rw [A.1];omega);have ih:=aFd q D (k+aL (enc p++aP q)) h.2 (by omega);rw [aCh y G,zO y G,A.1,A.2,List.drop_left];rw [A.1] at ih;exact ⟨by rw [ih.1],ih.2⟩
theorem aAX {q:List Int} (h:q.all bW=true):eS (aB1 q).1=(q,0,0):=by
 rw [oK q h];have:=aFd q (aP q).length 0 h (Nat.le_refl _);rw [xL this.2,this.1]
theorem aAb {q:List Int} (h:q.all bW=true):aI (aB1 q).1=(q.length:Int):=by
 unfold aI;rw [aAX h];simp
theorem aKj {s:List Int} {n:Nat} (M:0<=lv s n) (j:Nat) (y:1<=j) (G:j<n):eD s j:=by
 have D:∀ j,1<=j->j<n->(∀ i,1<=i->i<j->eD s i)->eD s j:=by
  intro j y G A;apply Classical.byContradiction;intro J;have:=sV (n:=n) j y G A J;omega
 induction j using Nat.strongRecOn with
 | _ j ih=>exact D j y G (fun i E h=>ih i h E (by omega))
theorem aH5 {s:List Int} {n:Nat} (h:0<=lv s n):n<=s.length/\0<=lead n (s[0]?.getD 0):=by
 unfold lv at h
 split at h
 ·omega
 ·split at h
  ·omega
  ·omega
theorem aC8 (s:List Int) (h:2<=s.length):s.take 2=[s[0]?.getD 0,s[1]?.getD 0]:=by
 rw [eG s 1 (by omega),eG s 0 (by omega)];simp
theorem yN (s:List Int) (h:3<=s.length):s.take 3=[s[0]?.getD 0,s[1]?.getD 0,s[2]?.getD 0]:=by
 rw [eG s 2 (by omega),aC8 s (by omega)];simp
theorem aGh (s:List Int) (h:4<=s.length):s.take 4=[s[0]?.getD 0,s[1]?.getD 0,s[2]?.getD 0,s[3]?.getD 0]:=by
 rw [eG s 3 (by omega),yN s (by omega)];simp
theorem aK6 {s:List Int} {n:Nat} (y:Bys s) (h1:1<=n) (h4:n<=4) (h:hit s n=true):enc (lv s n)=s.take n/\bW (lv s n)=true:=by
 have X:=aFE h
 have G:cK (lv s n)=n:=by
  simp only [hit,Bool.and_eq_true,beq_iff_eq] at h;exact h.2
 have D:bW (lv s n)=true:=by
  cases ho:bW (lv s n)
  ·have:cK (lv s n)=0:=by simp [cK,ho]
   omega
  ·rfl
 refine ⟨?_,D⟩;obtain ⟨S,E⟩:=aH5 X;have b0:=y.get 0;have A:=aKj X
 by_cases e1:n=1
 ·subst e1;have N:=aAo D G
  have J:s[0]?.getD 0<128:=by
   apply Classical.byContradiction;intro U;rw [kP 1 _ (by omega) (by omega) (by omega) (by omega)] at E;omega
  have hv:=(aG9 S b0.1 J).2;rw [hv,wB _ J];rw [eG s 0 (by omega)];simp
 ·by_cases e2:n=2
  ·subst e2;have N:=aAq D G
   have J:s[0]?.getD 0 / 32=6:=by
    apply Classical.byContradiction;intro U;rw [kP 2 _ (by omega) (by omega) (by omega) (by omega)] at E;omega
   have M:=A 1 (by omega) (by omega);have hv:=lv2 J M;have Z:=y.get 1;have d1:=M.2;rw [aEM _ N.1 N.2,aC8 s S,hv];simp only [List.cons.injEq,and_true];omega
  ·by_cases e3:n=3
   ·subst e3;have N:=tK D G
    have J:s[0]?.getD 0 / 16=14:=by
     apply Classical.byContradiction;intro U;rw [kP 3 _ (by omega) (by omega) (by omega) (by omega)] at E;omega
    have M:=A 1 (by omega) (by omega);have O:=A 2 (by omega) (by omega);have hv:=lv3 J M O;have Z:=y.get 1;have b2:=y.get 2;have d1:=M.2;have d2:=O.2;rw [aEr _ N.1 N.2,yN s S,hv];simp only [List.cons.injEq,and_true];omega
   ·have e4:n=4:=(by omega);subst e4;have N:=wO D G
    have J:s[0]?.getD 0 / 8=30:=by
     apply Classical.byContradiction;intro U;rw [kP 4 _ (by omega) (by omega) (by omega) (by omega)] at E;omega
    have M:=A 1 (by omega) (by omega);have O:=A 2 (by omega) (by omega);have Y:=A 3 (by omega) (by omega);have hv:=lv4 J M O Y;have Z:=y.get 1;have b2:=y.get 2;have b3:=y.get 3;have d1:=M.2;have d2:=O.2;have d3:=Y.2;rw [aEV _ N,aGh s S,hv];simp only [List.cons.injEq,and_true];omega
theorem aGb {s:List Int} (h:aL s≠0):hit s (aL s)=true:=by
 unfold aL at h ⊢
 split
 ·assumption
 ·split
  ·assumption
  ·split
   ·assumption
   ·split
    ·assumption
    ·simp_all
theorem aI6 (f:Nat):∀ (s:List Int) (k:Nat),Bys s->s.length<=f->err f s k=none->aP (pts f s)=s/\(pts f s).all bW=true:=by
 induction f with
 | zero=>
   intro s k _ J _;have:s=[]:=List.eq_nil_of_length_eq_zero (by omega);subst this;simp [pts,aP]
 | succ f ih=>
   intro s k h J A
   by_cases y:s=[]
   ·subst y;simp [aBY,aP]
   ·by_cases D:aL s=0
    ·rw [aBX y D] at A;cases A
    ·rw [zO y D] at A;rw [aCh y D];have M:=aET s;have E:=aK6 h (by omega) M (aGb D);have G:=ih (s.drop (aL s)) (k+aL s) (fun z N=>h z (List.mem_of_mem_drop N)) (by rw [List.length_drop];omega) A;have e:aP (lv s (aL s)::pts f (s.drop (aL s)))=enc (lv s (aL s))++aP (pts f (s.drop (aL s))):=(by simp [aP]);rw [e,E.1,G.1,List.take_append_drop];exact ⟨rfl,by simp [E.2,G.2]⟩
theorem tM {c:List Int} (A:Bys c) (h:(eS c).2.1=0):aB1 (eS c).1=(c,0):=by
 cases y:err c.length c 0 with
 | none=>
   rw [xL y];have:=aI6 c.length c 0 A (Nat.le_refl _) y;rw [oK _ this.2,this.1]
 | some k=>rw [yR y] at h;simp at h
theorem aBx {c:List Int} (h:(eS c).2.1≠0):aI c = -1:=by unfold aI;rw [if_neg h]
def aO {σ:Type} (f:σ->Option σ):Nat->σ->Option σ
 | 0,s=>some s
 | k+1,s=>(f s).bind (aO f k)
def aE {σ:Type} (chk:Nod->σ->Option σ):Nat->Bool->List Nod × σ->Option (List Nod × σ)
 | 0,_,_=>none
 | _+1,_,([],_)=>none
 | d+1,m,(n::R,s)=>if n.mem≠m then none else (chk n s).bind fun s'=>if 5<=n.k/\d=0 then none else aO (aE chk d (decide (n.k=6))) n.C.toNat (R,s')
def nT {σ:Type} (chk:Nod->σ->Option σ):List Nod->σ->Option σ
 | [],s=>some s
 | n::P,s=>(chk n s).bind (nT chk P)
theorem oS {σ:Type} (h:Nod->σ->Option σ):∀ (P Q:List Nod) (s:σ),nT h (P++Q) s=(nT h P s).bind (nT h Q)
 | [],Q,s=>rfl
 | n::P,Q,s=>by
   simp only [List.cons_append,nT];cases h n s with
   | none=>rfl
   | some s'=>exact oS h P Q s'
def bC (_:Nod) (u:Unit):Option Unit:=some u
def aEQ {σ:Type} (chk:Nod->σ->Option σ) (f:List Nod × σ->Option (List Nod × σ)) (g:List Nod × Unit->Option (List Nod × Unit)):Prop:=
 ∀ (R:List Nod) (s:σ) (R2:List Nod) (s2:σ),f (R,s)=some (R2,s2) ↔ ∃ P,R=P++R2/\g (R,())=some (R2,())/\nT chk P s=some s2
def aKc (g:List Nod × Unit->Option (List Nod × Unit)):Prop:=∀ R R2,g (R,())=some (R2,())->∃ P,R=P++R2
theorem gK {σ:Type} {U:Nod->σ->Option σ} {f:List Nod × σ->Option (List Nod × σ)} {g:List Nod × Unit->Option (List Nod × Unit)} (h:aEQ U f g) (Z:aKc g):∀ k,aEQ U (aO f k) (aO g k)/\aKc (aO g k)
 | 0=>by
   refine ⟨fun R s A s2=>⟨fun h=>?_,fun ⟨P,h1,h2,h3⟩=>?_⟩,fun R A h=>?_⟩
   ·simp only [aO,Option.some.injEq,Prod.mk.injEq] at h;obtain ⟨rfl,rfl⟩:=h;exact ⟨[],rfl,rfl,rfl⟩
   ·simp only [aO,Option.some.injEq,Prod.mk.injEq,and_true] at h2;subst h2;have Y:P=[]:=(by simpa using h1);subst Y;simp only [nT,Option.some.injEq] at h3;subst h3;rfl
   ·simp only [aO,Option.some.injEq,Prod.mk.injEq,and_true] at h;exact ⟨[],by simpa using h⟩
 | k+1=>by
   obtain ⟨ih,O⟩:=gK h Z k;refine ⟨fun R s A s2=>⟨fun X=>?_,fun ⟨P,h1,h2,h3⟩=>?_⟩,fun R A X=>?_⟩
   ·simp only [aO,Option.bind_eq_some_iff] at X;obtain ⟨⟨y,S⟩,e1,e2⟩:=X;obtain ⟨E,G,M,f1⟩:=(h R s y S).1 e1;obtain ⟨D,J,N,f2⟩:=(ih y S A s2).1 e2;refine ⟨E++D,by rw [G,J,List.append_assoc],?_,?_⟩
    ·simp only [aO,M,Option.bind_some];exact N
    ·rw [oS,f1];exact f2
   ·simp only [aO,Option.bind_eq_some_iff] at h2;obtain ⟨⟨y,⟨⟩⟩,M,N⟩:=h2;obtain ⟨E,G⟩:=Z R y M;obtain ⟨D,J⟩:=O y A N
    have Y:P=E++D:=by
     have:P++A=(E++D)++A:=by rw [<- h1,G,J,List.append_assoc]
     exact List.append_cancel_right this
    rw [Y,oS,Option.bind_eq_some_iff] at h3;obtain ⟨S,f1,f2⟩:=h3;have e1:=(h R s y S).2 ⟨E,G,M,f1⟩;have e2:=(ih y S A s2).2 ⟨D,J,N,f2⟩;simp only [aO,e1,Option.bind_some];exact e2
   ·simp only [aO,Option.bind_eq_some_iff] at X;obtain ⟨⟨y,⟨⟩⟩,M,N⟩:=X;obtain ⟨E,G⟩:=Z R y M;obtain ⟨D,J⟩:=O y A N;exact ⟨E++D,by rw [G,J,List.append_assoc]⟩
theorem bU {σ:Type} (y:Nod->σ->Option σ):∀ (d:Nat) (m:Bool),aEQ y (aE y d m) (aE bC d m)/\aKc (aE bC d m)
 | 0,m=>⟨fun R s A S=>by simp [aE],fun R A h=>by simp [aE] at h⟩
 | d+1,m=>by
   have M:=fun X k=>gK (bU y d X).1 (bU y d X).2 k;refine ⟨fun R s A S=>?_,fun R A D=>?_⟩
   ·cases R with
    | nil=>simp [aE]
    | cons n R=>
      by_cases E:n.mem≠m
      ·simp [aE,E]
      ·by_cases G:5<=n.k/\d=0
       ·simp [aE,E,G,bC]
       ·have Z:aE y (d+1) m (n::R,s)=(y n s).bind fun s'=>aO (aE y d (decide (n.k=6))) n.C.toNat (R,s'):=(by simp only [aE,if_neg E,if_neg G]);have e2:aE bC (d+1) m (n::R,())=aO (aE bC d (decide (n.k=6))) n.C.toNat (R,()):=(by simp only [aE,if_neg E,if_neg G,bC,Option.bind_some]);rw [Z,e2];constructor
        ·intro D;rw [Option.bind_eq_some_iff] at D;obtain ⟨s',U,O⟩:=D;obtain ⟨P,r,g,f⟩:=((M _ _).1 R s' A S).1 O;exact ⟨n::P,by rw [r];rfl,g,by simp only [nT,U,Option.bind_some];exact f⟩
        ·rintro ⟨P,r,g,f⟩;obtain ⟨J,N⟩:=(M _ _).2 R A g
         have Y:P=n::J:=by
          have:P++A=(n::J)++A:=by rw [<- r,N];rfl
          exact List.append_cancel_right this
         rw [Y] at f;simp only [nT,Option.bind_eq_some_iff] at f;obtain ⟨s',U,O⟩:=f;rw [Option.bind_eq_some_iff];exact ⟨s',U,((M _ _).1 R s' A S).2 ⟨J,N,g,O⟩⟩
   ·cases R with
    | nil=>simp [aE] at D
    | cons n R=>
      by_cases E:n.mem≠m
      ·simp [aE,E] at D
      ·by_cases G:5<=n.k/\d=0
       ·simp [aE,E,G,bC] at D
       ·simp only [aE,if_neg E,if_neg G,bC,Option.bind_some] at D;obtain ⟨J,N⟩:=(M _ _).2 R A D;exact ⟨n::J,by rw [N];rfl⟩
theorem aDm {σ:Type} (h:Nod->σ->Option σ) (d:Nat) (m:Bool) (R:List Nod) (s y:σ):aE h d m (R,s)=some ([],y) ↔ aE bC d m (R,())=some ([],())/\nT h R s=some y:=by
 rw [(bU h d m).1 R s [] y];constructor
 ·rintro ⟨P,r,g,f⟩;have:R=P:=by simpa using r
  subst this;exact ⟨g,f⟩
 ·rintro ⟨g,f⟩;exact ⟨R,by simp,g,f⟩
theorem aGq (d:Nat) (m:Bool) (R A:List Nod) (h:aE bC d m (R,())=some (A,())):A.length<R.length:=by
 cases d with
 | zero=>simp [aE] at h
 | succ d=>
   cases R with
   | nil=>simp [aE] at h
   | cons n R=>
     by_cases y:n.mem≠m
     ·simp [aE,y] at h
     ·by_cases D:5<=n.k/\d=0
      ·simp [aE,y,D,bC] at h
      ·simp only [aE,if_neg y,if_neg D,bC,Option.bind_some] at h;obtain ⟨P,r⟩:=(gK (bU bC d _).1 (bU bC d _).2 _).2 R A h;rw [r];simp;omega
theorem aA8 (d:Nat) (m:Bool):∀ (k:Nat) (R:List Nod),R.length<k->aO (aE bC d m) k (R,())=none
 | 0,R,h=>by omega
 | k+1,R,h=>by
   simp only [aO];cases A:aE bC d m (R,()) with
   | none=>rfl
   | some x=>
     obtain ⟨y,⟨⟩⟩:=x;have:=aGq d m R y A;exact aA8 d m k y (by omega)
def gR (len:Nat):Nat->Bool->List Nod->Option (List Nod)
 | 0,_,_=>none
 | _+1,_,[]=>none
 | d+1,m,n::R=>if n.mem≠m then none else if (len:Int)<n.C\/(5<=n.k/\d=0) then none else aO (gR len d (decide (n.k=6))) n.C.toNat R
theorem aBE (f:List Nod->Option (List Nod)) (g:List Nod × Unit->Option (List Nod × Unit)) (A:Nat) (h:∀ R,R.length<=A->(f R).map (fun x=>(x,()))=g (R,())) (D:aKc g):∀ (k:Nat) (R:List Nod),R.length<=A->(aO f k R).map (fun x=>(x,()))=aO g k (R,())
 | 0,R,_=>rfl
 | k+1,R,hl=>by
   simp only [aO];have y:=h R hl;cases E:f R with
   | none=>rw [E] at y;simp only [Option.map_none] at y;rw [<- y];rfl
   | some R1=>
     rw [E] at y;simp only [Option.map_some] at y;rw [<- y];obtain ⟨P,r⟩:=D R R1 y.symm;exact aBE f g A h D k R1 (by rw [r] at hl;simp at hl;omega)
theorem qD (h:Nat):∀ (d:Nat) (m:Bool) (R:List Nod),R.length<=h->(gR h d m R).map (fun x=>(x,()))=aE bC d m (R,())
 | 0,_,_,_=>rfl
 | _+1,_,[],_=>rfl
 | d+1,m,n::R,hl=>by
   by_cases y:n.mem≠m
   ·simp [gR,aE,y]
   ·by_cases A:5<=n.k/\d=0
    ·simp [gR,aE,y,A,bC]
    ·have J:aE bC (d+1) m (n::R,())=aO (aE bC d (decide (n.k=6))) n.C.toNat (R,()):=(by simp only [aE,if_neg y,if_neg A,bC,Option.bind_some]);rw [J]
     by_cases E:(h:Int)<n.C
     ·rw [aA8 d _ _ R (by simp at hl;omega)];simp [gR,y,E]
     ·have G:gR h (d+1) m (n::R)=aO (gR h d (decide (n.k=6))) n.C.toNat R:=(by simp only [gR,if_neg y];rw [if_neg (by omega)]);rw [G];exact aBE _ _ h (fun M D=>qD h d _ M D) (bU bC d _).2 _ R (by simp at hl;omega)
def gM (c:Int):Bool:=decide ((97<=c/\c<=122)\/(65<=c/\c<=90)\/c=95\/c=36)
def aK (c:Int):Bool:=decide (48<=c/\c<=57)
def uC (k:Nat) (c:Int):Bool:=gM c||(k != 0&&aK c)
def sS (zs:List Int) (k:Nat):Bool:=(List.range k).all fun j=>uC j (zs[j]?.getD 0)
def nmR (zs:List Int):Bool:=sS zs zs.length&&decide (0<zs.length)
theorem aBr (zs:List Int) (k:Nat) (h:sS zs k=true) (y:uC k (zs[k]?.getD 0)=true):sS zs (k+1)=true:=by
 simp only [sS,List.range_succ,List.all_append,List.all_cons,List.all_nil] at h ⊢;simp [h,y]
theorem aFS (zs:List Int) (k:Nat) (y:k<zs.length) (h:uC k (zs[k]?.getD 0)=false):nmR zs=false:=by
 have:sS zs zs.length=false:=by
  rw [sS,List.all_eq_false];exact ⟨k,List.mem_range.2 y,by simpa using h⟩
 simp [nmR,this]
theorem aE4 (zs:List Int) (h:sS zs zs.length=true):nmR zs=decide (0<zs.length):=by simp [nmR,h]
def oU (u x:Int):Int:=65536+(u - 55296)*1024+(x - 56320)
def fu:List Int->List Int
 | []=>[]
 | [u]=>[u]
 | u::x::r=>if lH u&&lP x then oU u x::fu r else u::fu (x::r)
def fuR (zs:List Int):List Int × Int:=if zs.all bZ then (fu zs,0) else ([],1)
theorem rP (zs:List Int) (k:Nat) (h:k<zs.length):zs.drop k=zs[k]?.getD 0::zs.drop (k+1):=by
 rw [List.drop_eq_getElem_cons h];simp [h]
theorem aIT (zs:List Int) (k:Nat) (D:k<zs.length) (h:¬ (lH (zs[k]?.getD 0)=true/\k+1<zs.length/\lP (zs[k+1]?.getD 0)=true)) :
  fu (zs.drop k)=zs[k]?.getD 0::fu (zs.drop (k+1)):=by
 rw [rP zs k D]
 by_cases y:k+1<zs.length
 ·rw [rP zs (k+1) y,fu,if_neg];simp only [Bool.and_eq_true];exact fun A=>h ⟨A.1,y,A.2⟩
 ·rw [List.drop_eq_nil_of_le (by omega)];rfl
theorem aGX (zs:List Int) (k:Nat) (y:k+1<zs.length) (h:lH (zs[k]?.getD 0)=true) (A:lP (zs[k+1]?.getD 0)=true) :
  fu (zs.drop k)=oU (zs[k]?.getD 0) (zs[k+1]?.getD 0)::fu (zs.drop (k+2)):=by
 rw [rP zs k (by omega),rP zs (k+1) y,fu,if_pos (by simp [h,A])]
theorem aEB:∀ (n:Nat) (zs:List Int),zs.length<=n->(fu zs).length<=zs.length
 | 0,zs,h=>by
   have:zs=[]:=List.eq_nil_of_length_eq_zero (by omega);subst this;simp [fu]
 | n+1,[],_=>by simp [fu]
 | n+1,[u],_=>by simp [fu]
 | n+1,u::x::r,h=>by
   simp only [List.length_cons] at h;rw [fu]
   split
   ·have:=aEB n r (by omega);simp only [List.length_cons];omega
   ·have:=aEB n (x::r) (by simp only [List.length_cons];omega);simp only [List.length_cons] at this ⊢;omega
theorem aCz (zs:List Int):(fuR zs).1.length<=zs.length:=by
 unfold fuR;split
 ·exact aEB _ zs (Nat.le_refl _)
 ·simp
theorem rV (zs:List Int) (h:zs.all bZ=false):fuR zs=([],1):=by simp [fuR,h]
theorem aCe (zs:List Int) (h:zs.all bZ=true):fuR zs=(fu zs,0):=by simp [fuR,h]
theorem aL8 {p:Int} (h:lP p=true):bZ p=true:=by
 simp [lP,bZ] at h ⊢;omega
theorem aCT {zs y:List Int} {k:Nat} {p:Int} (A:y++fu (zs.drop k)=fu zs) (h:fu (zs.drop k)=p::fu (zs.drop (k+1))):y++[p]++fu (zs.drop (k+1))=fu zs:=by
 rw [<- A,h];simp
theorem aDC {zs y:List Int} {k:Nat} {p:Int} (A:y++fu (zs.drop k)=fu zs) (h:fu (zs.drop k)=p::fu (zs.drop (k+2))):y++[p]++fu (zs.drop (k+2))=fu zs:=by
 rw [<- A,h];simp
theorem aHE {zs h:List Int} {k:Nat} (A:zs.length<=k) (y:h++fu (zs.drop k)=fu zs):h=fu zs:=by
 rw [List.drop_eq_nil_of_le A] at y;simpa [fu] using y
def mR (n:Int):Int:=if n<10 then 48+n else 87+n
def dH (p:Int):List Int:=[92,117,mR (p / 4096%16),mR (p / 256%16),mR (p / 16%16),mR (p%16)]
def mH (p:Int):Bool:=decide (p<32)||decide (p=127)||decide (p=8232)||decide (p=8233) || !bW p
def pR (p:Int):List Int:=
 if p=8 then [92,98] else if p=12 then [92,102] else if p=10 then [92,110] else if p=13 then [92,114] else if p=9 then [92,116]
 else if p=34 then [92,34] else if p=92 then [92,92] else []
def fF (p:Int):List Int:=if pR p≠[] then pR p else if mH p then dH p else enc p
def jC (ps:List Int):List Int:=ps.flatMap fF
def quR (us:List Int):List Int × Int:=if (fuR us).2=0 then (34::jC (fuR us).1++[34],0) else ([],(fuR us).2)
theorem aGw (p:Int):(pR p).length<=2:=by
 unfold pR
 repeat' split
 all_goals simp
theorem aIh (p:Int):(fF p).length<=6:=by
 unfold fF;have h:=aGw p;have y:=xO p
 split
 ·omega
 ·split
  ·simp [dH]
  ·omega
theorem aAh (ps:List Int):(jC ps).length<=6*ps.length:=by
 induction ps with
 | nil=>simp [jC]
 | cons p ps ih=>
   have:=aIh p;simp only [jC,List.flatMap_cons,List.length_append,List.length_cons] at ih ⊢;omega
theorem aBG (zs:List Int) (k:Nat) (h:k<zs.length):jC (zs.take (k+1))=jC (zs.take k)++fF (zs[k]?.getD 0):=by
 rw [eG zs k h];simp [jC]
def aAE:ByteArray:={ data:=#[48,49,50,51,52,53,54,55,56,57,97,98,99,100,101,102] }
theorem aG7 (n:Nat) (h:n<16) (W:World):(Instr.index 9 (.string aAE) (.int .i32 (n:Int))).run prog W=.ok (.int .u8 (mR n)) W:=by
 rw [run_index_string W 9 aAE .i32 (n:Int) underlying9];have y:aAE.size=16:=rfl;rw [dif_pos ⟨by omega,by rw [y];omega⟩];congr 2
 match n,h with
 | 0,_=>rfl
 | 1,_=>rfl
 | 2,_=>rfl
 | 3,_=>rfl
 | 4,_=>rfl
 | 5,_=>rfl
 | 6,_=>rfl
 | 7,_=>rfl
 | 8,_=>rfl
 | 9,_=>rfl
 | 10,_=>rfl
 | 11,_=>rfl
 | 12,_=>rfl
 | 13,_=>rfl
 | 14,_=>rfl
 | 15,_=>rfl
 | n+16,h=>omega
theorem aIH (n:Nat) (h:n<16) (W:World):(Instr.index 9 (.string aAE) (.int .i64 (n:Int))).run prog W=.ok (.int .u8 (mR n)) W:=by
 have:=aG7 n h W;rw [run_index_string W 9 aAE _ (n:Int) underlying9] at this ⊢;have y:aAE.size=16:=rfl;rw [dif_pos ⟨by omega,by rw [y];omega⟩] at this ⊢;exact this
theorem aFe (p:Int) (y:0<=p) (h:p<2147483648):bits .and .i32 p 15=p%16:=nZ 4 (by omega) p y h
theorem aL9 (p:Int) (W:World):(Instr.index 9 (.string aAE) (.int .i32 (p%16))).run prog W=.ok (.int .u8 (mR (p%16))) W:=by
 obtain ⟨n,h⟩:=Int.eq_ofNat_of_zero_le (show 0<=p%16 by omega);rw [h];exact aG7 n (by omega) W
theorem aKk (p:Int) (W:World):(Instr.index 9 (.string aAE) (.int .i64 (p%16))).run prog W=.ok (.int .u8 (mR (p%16))) W:=by
 obtain ⟨n,h⟩:=Int.eq_ofNat_of_zero_le (show 0<=p%16 by omega);rw [h];exact aIH n (by omega) W
end Go.Proofs.YtmfehflibkokbaaGreatDoor
namespace Go.Proofs.YtmfehflibkokbaaGreatDoor
open Go.Proofs.Tryz
def aH (k:Int):List Pc:=[⟨k,[],0⟩]
def aG (t:List Int):List Pc:=[⟨1,t,0⟩]
def nF:Pc:=⟨6,[],0⟩
def iS (dss:List (List Pc)):List Pc:=dss.flatMap fun ds=>ds++[nF]
def cV:List (List Pc)->List Pc
 | []=>aH 0
 | ds::dss=>ds++iS dss
theorem aBu (h:List (List Pc)) (y:List Pc):iS (h++[y])=iS h++(y++[nF]):=by simp [iS]
def spl:List Int->List Int->List (List Int)
 | cur,[]=>[cur]
 | cur,x::xs=>if x=10 then cur::spl [] xs else spl (cur++[x]) xs
theorem aHX (h xs:List Int):spl h xs≠[]:=by
 induction xs generalizing h with
 | nil=>simp [spl]
 | cons x xs ih=>simp only [spl];split<;>simp [ih]
def rW:List (List Int)->List (List Pc)
 | []=>[]
 | [l]=>[aG l]
 | l::ls=>aG l::aH 5::rW ls
def qM (ls:List (List Int)):List (List Pc):=ls.flatMap fun l=>[aH 5,aG l]
theorem aG6:∀ (l:List Int) (h:List (List Int)),rW (l::h)=aG l::qM h
 | l,[]=>rfl
 | l,m::h=>by simp only [rW,aG6 m h];simp [qM]
def jJ (c:Cm):List Pc:=if c.b then cV (rW (spl [] (47::42::c.t++[42,47]))) else aG (47::47::c.t)
def bM (cs:List Cm):List (List Pc):=cs.flatMap fun c=>[jJ c,aH 4]
def cU (cs:List Cm):List (List Pc):=cs.flatMap fun c=>[aH 4,jJ c]
theorem aBz (h:List Cm) (c:Cm):bM (h++[c])=bM h++[jJ c,aH 4]:=by simp [bM]
theorem aA5 (h:List Cm) (c:Cm):cU (h++[c])=cU h++[aH 4,jJ c]:=by simp [cU]
def fS (us:List Int):List Int:=if nmR us then us else (quR us).1
def pB (n:Nod):List (List Pc):=if n.mem then [aG (fS n.key++[58,32])] else []
def fA (n:Nod):List Pc:=
 if n.k=3 then aG n.X else if n.k=4 then aG (quR n.U).1
 else if n.k=0 then aG [110,117,108,108] else if n.k=1 then aG [116,114,117,101] else aG [102,97,108,115,101]
section
variable (V:List Nod->List Pc × List Nod)
def bF:Nat->List Nod->List Nod
 | 0,R=>R
 | k+1,R=>(V (bF k R)).2
def iN:List Nod->List (List Pc)
 | []=>[]
 | n::R=>bM n.L++(pB n++[(V (n::R)).1])
def itK:Nat->List Nod->List (List Pc)
 | 0,_=>[]
 | k+1,R=>itK k R++((if k=0 then [] else [aG [44],aH 2])++iN V (bF V k R))
end
def jY (k:Int):Int:=if k=6 then 123 else 91
def kW (k:Int):Int:=if k=6 then 125 else 93
def oD (k:Int):Int:=if k=6 then 2 else 3
def yC:List Pc:=[⟨1,[44],0⟩,⟨0,[],0⟩,⟨9,[],0⟩]
def kC (k:Int) (items:List (List Pc)) (tail:List Cm):List (List Pc):=aH (oD k)::(items++(yC::cU tail))
def iQ (ind:Int) (dss:List (List Pc)):List Pc:=cV dss++[⟨7,[],ind⟩]
def kB (ind:Int) (n:Nod) (items:List (List Pc)):List Pc:=
 if n.C=0 then
  if n.tail=[] then aG [jY n.k,kW n.k]
  else cV [aG [jY n.k],iQ ind (cU n.tail),aH 4,aG [kW n.k]]
 else cV [aG [jY n.k],iQ ind (kC n.k items n.tail),aH (oD n.k),aG [kW n.k]]++[⟨8,[],0⟩]
def aJ (ind:Int):Nat->List Nod->List Pc × List Nod
 | 0,R=>([],R)
 | _+1,[]=>([],[])
 | d+1,n::R=>if n.k<5 then (fA n,R) else (kB ind n (itK (aJ ind d) n.C.toNat R),bF (aJ ind d) n.C.toNat R)
theorem lX {d:Nat} {m:Bool} {ind:Int} (ih:∀ R y,aE bC d m (R,())=some (y,())->(∀ n∈R,n.k<5->n.C=0)->(aJ ind d R).2=y) :
  ∀ (k:Nat) (R y:List Nod),aO (aE bC d m) k (R,())=some (y,())->(∀ n∈R,n.k<5->n.C=0)->∀ j,j<=k->aO (aE bC d m) j (R,())=some (bF (aJ ind d) j R,()):=by
 intro k R y h N j U
 induction j with
 | zero=>rfl
 | succ j ihj=>
   have D:=ihj (by omega);obtain ⟨P,M⟩:=(gK (bU bC d m).1 (bU bC d m).2 j).2 _ _ D
   have G:aO (aE bC d m) (j+1) (R,())=(aO (aE bC d m) j (R,())).bind (aE bC d m):=by
    have:∀ (f:List Nod × Unit->Option (List Nod × Unit)) (k:Nat) (s:List Nod × Unit),aO f (k+1) s=(aO f k s).bind f:=by
     intro f k
     induction k with
     | zero=>intro s;simp [aO]
     | succ k ih=>intro s;rw [aO];simp only [aO];cases f s with
       | none=>rfl
       | some x=>exact ih x
    exact this _ _ _
   rw [G,D,Option.bind_some];cases J:aE bC d m (bF (aJ ind d) j R,()) with
   | none=>
     exfalso
     have S:∀ i,aO (aE bC d m) (j+1+i) (R,())=none:=by
      intro i
      have A:∀ (f:List Nod × Unit->Option (List Nod × Unit)) (a b:Nat) (s:List Nod × Unit),aO f (a+b) s=(aO f a s).bind (aO f b):=by
       intro f a
       induction a with
       | zero=>intro b s;simp [aO]
       | succ a ih=>intro b s;rw [show a+1+b=(a+b)+1 by omega];simp only [aO];cases f s with
         | none=>rfl
         | some x=>exact ih b x
      rw [A,G,D,Option.bind_some,J];rfl
     have:=S (k - (j+1));rw [show j+1+(k - (j+1))=k by omega,h] at this;cases this
   | some x=>
     obtain ⟨O,⟨⟩⟩:=x;have:=ih _ O J (fun n E=>N n (by rw [M];exact List.mem_append_right _ E));simp only [bF,this]
theorem oJ (ind:Int):∀ (d:Nat) (m:Bool) (R y:List Nod),aE bC d m (R,())=some (y,())->(∀ n∈R,n.k<5->n.C=0)->(aJ ind d R).2=y
 | 0,m,R,y,h,_=>by simp [aE] at h
 | d+1,m,[],y,h,_=>by simp [aE] at h
 | d+1,m,n::R,y,h,hn=>by
   by_cases E:n.mem≠m
   ·simp [aE,E] at h
   ·by_cases G:5<=n.k/\d=0
    ·simp [aE,E,G,bC] at h
    ·simp only [aE,if_neg E,if_neg G,bC,Option.bind_some] at h
     by_cases A:n.k<5
     ·have M:=hn n (by simp) A;rw [M] at h;simp only [Int.toNat_zero,aO,Option.some.injEq,Prod.mk.injEq,and_true] at h;simp only [aJ,if_pos A,h]
     ·simp only [aJ,if_neg A];have:=lX (ind:=ind) (fun R y h J=>oJ ind d _ R y h J) _ R y h (fun n D=>hn n (by simp [D])) _ (Nat.le_refl _);rw [h] at this;simpa using this.symm
def mes:List Pc->Nat
 | []=>0
 | p::ps=>1+p.t.length+mes ps
theorem iI (a b:List Pc):mes (a++b)=mes a+mes b:=by
 induction a with
 | nil=>simp [mes]
 | cons p a ih=>simp only [List.cons_append,mes,ih];omega
theorem oW (a:List Pc):a.length<=mes a:=by
 induction a with
 | nil=>simp
 | cons p a ih=>simp only [List.length_cons,mes];omega
theorem xN (a:List Pc):(mes a:Int)=a.length+cM a:=by
 induction a with
 | nil=>simp [mes,cM]
 | cons p a ih=>simp only [List.length_cons,mes,cM];omega
theorem aFo (a:List Pc):∀ p∈a,p.t.length<=mes a:=by
 induction a with
 | nil=>simp
 | cons p a ih=>
   intro q y;simp only [mes];rcases List.mem_cons.1 y with rfl | h
   ·omega
   ·have:=ih q h;omega
def cR:List (List Pc)->Nat
 | []=>0
 | ds::dss=>mes ds+1+cR dss
theorem eO (a b:List (List Pc)):cR (a++b)=cR a+cR b:=by
 induction a with
 | nil=>simp [cR]
 | cons p a ih=>simp only [List.cons_append,cR,ih];omega
theorem cN (a:List (List Pc)):a.length<=cR a:=by
 induction a with
 | nil=>simp
 | cons p a ih=>simp only [List.length_cons,cR];omega
theorem aCR (a:List (List Pc)):∀ p∈a,mes p<=cR a:=by
 induction a with
 | nil=>simp
 | cons p a ih=>
   intro q y;simp only [cR];rcases List.mem_cons.1 y with rfl | h
   ·omega
   ·have:=ih q h;omega
theorem aDa (h:List (List Pc)):mes (iS h)=cR h:=by
 induction h with
 | nil=>rfl
 | cons ds h ih=>rw [show iS (ds::h)=(ds++[nF])++iS h by simp [iS],iI,iI,ih];simp [cR,mes,nF]
theorem jB (h:List (List Pc)):mes (cV h)<=cR h+1:=by
 cases h with
 | nil=>simp [cV,aH,mes,cR]
 | cons ds h=>simp only [cV,iI,aDa,cR];omega
def nO:List (List Int)->Nat
 | []=>0
 | l::ls=>l.length+1+nO ls
theorem qH (h xs:List Int):nO (spl h xs)=h.length+xs.length+1:=by
 induction xs generalizing h with
 | nil=>simp [spl,nO]
 | cons x xs ih=>
   simp only [spl]
   split
   ·simp only [nO,ih,List.length_cons,List.length_nil];omega
   ·rw [ih];simp only [List.length_append,List.length_cons,List.length_nil];omega
theorem aGY (h:List (List Int)):cR (rW h)<=4*nO h:=by
 induction h with
 | nil=>simp [rW,cR]
 | cons l h ih=>
   cases h with
   | nil=>simp only [rW,cR,aG,mes,nO];omega
   | cons m h=>simp only [rW,cR,aG,aH,mes,nO,List.length_nil] at ih ⊢;omega
theorem aFk (c:Cm):mes (jJ c)<=4*c.t.length+24:=by
 unfold jJ
 split
 ·have:=jB (rW (spl [] (47::42::c.t++[42,47])));have h:=aGY (spl [] (47::42::c.t++[42,47]));rw [qH] at h;simp only [List.length_nil,List.length_append,List.length_cons] at h;omega
 ·simp only [aG,mes,List.length_cons];omega
def wC:List Cm->Nat
 | []=>0
 | c::cs=>4*c.t.length+30+wC cs
theorem iB (h:List Cm):cR (bM h)<=wC h:=by
 induction h with
 | nil=>simp [bM,cR,wC]
 | cons c h ih=>
   rw [show bM (c::h)=[jJ c,aH 4]++bM h by simp [bM],eO];have:=aFk c;simp only [cR,aH,mes,List.length_nil,wC];omega
theorem kS (h:List Cm):cR (cU h)<=wC h:=by
 induction h with
 | nil=>simp [cU,cR,wC]
 | cons c h ih=>
   rw [show cU (c::h)=[aH 4,jJ c]++cU h by simp [cU],eO];have:=aFk c;simp only [cR,aH,mes,List.length_nil,wC];omega
theorem aB9 (h:List Int):(quR h).1.length<=6*h.length+2:=by
 unfold quR
 split
 ·have:=aAh (fuR h).1;have:=aCz h;simp only [List.length_append,List.length_cons,List.length_nil];omega
 ·simp
theorem xM (h:List Int):(fS h).length<=6*h.length+2:=by
 unfold fS
 split
 ·omega
 ·exact aB9 h
def wN (n:Nod):Nat:=100+wC n.L+wC n.tail+6*n.key.length+6*n.U.length+n.X.length
def wNs:List Nod->Nat
 | []=>0
 | n::R=>wN n+wNs R
theorem vC (a b:List Nod):wNs (a++b)=wNs a+wNs b:=by
 induction a with
 | nil=>simp [wNs]
 | cons p a ih=>simp only [List.cons_append,wNs,ih];omega
theorem aH2 (n:Nod):mes (fA n)+40+wC n.L+wC n.tail+6*n.key.length<=wN n:=by
 have:=aB9 n.U;unfold fA wN
 repeat' split
 all_goals simp only [aG,mes,List.length_cons,List.length_nil]
 all_goals omega
theorem aBk {V:List Nod->List Pc × List Nod} (n:Nod) (R:List Nod) (x:Nat) (h:mes (V (n::R)).1+40+wC n.L+6*n.key.length<=x):cR (iN V (n::R))+20<=x:=by
 have y:=iB n.L;have A:=xM n.key;simp only [iN,eO,cR];unfold pB
 split
 ·simp only [cR,aG,mes,List.length_append,List.length_cons,List.length_nil];omega
 ·simp only [cR];omega
end Go.Proofs.YtmfehflibkokbaaGreatDoor
namespace Go.Proofs.YtmfehflibkokbaaGreatDoor
open Go.Proofs.Tryz
open Go.RowKit
structure Tre where
 N:List Nod
 tail:List Cm
def eF (B:Nat) (w:World) (nv tv:Value) (t:Tre):Prop:=RdN B w nv t.N/\RdC B w tv t.tail
end Go.Proofs.YtmfehflibkokbaaGreatDoor
