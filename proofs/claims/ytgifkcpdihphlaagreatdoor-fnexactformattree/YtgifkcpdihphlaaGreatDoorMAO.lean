import Derived.Laws.AppendOwnNone
import Derived.Test.YtgifkcpdihphlaaGreatDoorMAG
set_option maxHeartbeats 16000000
set_option maxRecDepth 100000
namespace Go.Proofs.YtgifkcpdihphlaaGreatDoor
open Tryz
open Go.RowKit
theorem aCP (p:Int) (h:bW p=true):1<=cM p/\cM p<=4:=by
 unfold cM;rw [if_pos h];split<;>(try split)<;>(try split)<;>omega
theorem aAp {p:Int} (h:bW p=true) (j:cM p=1):p<128:=by
 unfold cM at j;rw [if_pos h] at j;split at j
 ·assumption
 ·split at j<;>(try split at j)<;>omega
theorem aAM {p:Int} (h:bW p=true) (j:cM p=2):¬ p<128/\p<2048:=by
 unfold cM at j;rw [if_pos h] at j;split at j
 ·omega
 ·split at j<;>(try split at j)<;>omega
theorem tR {p:Int} (h:bW p=true) (j:cM p=3):¬ p<2048/\p<65536:=by
 unfold cM at j;rw [if_pos h] at j;split at j
 ·omega
 ·split at j<;>(try split at j)<;>omega
theorem xG {p:Int} (h:bW p=true) (j:cM p=4):¬ p<65536:=by
 unfold cM at j;rw [if_pos h] at j;split at j
 ·omega
 ·split at j<;>(try split at j)<;>omega
theorem vL {B:Nat} {w u:World} {A:Value} {xs:List Int} {x:Int} (y:B<=w.heap.size) (n:Nat)
  (h:u.ownsRow B 5 1 A n ([.int .u8 x]++xs.map (Value.int .u8))) (D:n=xs.length+1) (j:(w.alloc (.cells #[.int .u8 x] 5)).grownBy u (Value.slice (some ⟨w.heap.size,0,none⟩) 1 1).ownBlock) :
  OwB B u A (x::xs)/\Below B w u:=by
 subst D;exact ⟨by simpa [Ow] using h,((Below.refl B w).alloc y _).grown j (by simp;omega) (fun k E=>by cases E;exact y)⟩
theorem oA (p:Int) (n:Nat) (f:Int) (w:World) (h0:0<=p) (h1:p<=1114111) (hn:cM p=n) (d2:2<=n) (d1:n<=4) (hf:f=if n=2 then 192 else if n=3 then 224 else 240) (hx:0<=f+(st (n - 1) p).1/\f+(st (n - 1) p).1<256) :
  Calls prog 106 #[.int .i64 p] w fun e w'=>∃ v',e=.returned v'/\OwB w.heap.size w' v' ((f+(st (n - 1) p).1)::(st (n - 1) p).2)/\Below w.heap.size w w':=by
 obtain ⟨i0,hi,N,S,Y⟩:=info_parts lL;have c5:((n:Int)==1)=false:=(by simp;omega);have HN:Hid (cM p=n):=hn;clear hn
 go_enter func106,ntmps106
 go_wp2_with (go_at_call 104;refine (jJ _ _).mono ?_;rintro e w' ⟨rfl,rfl⟩;rw [HN.out])
 go_loopw [0,4,5] (fun x t i wr=>∃ k:Nat,k+1<=n/\i=.int .i64 ((k:Int)+1)/\x=.int .i64 (st k p).1/\OwB w.heap.size wr t (st k p).2/\(k=0->t=.slice none 0 0)/\Below w.heap.size w wr)
  (fun _ _ i _=>n - (intOf i).toNat)
 case atStart=>exact ⟨0,by omega,rfl,rfl,World.ownsRow_nil _ _ _ _,fun _=>rfl,Below.refl _ _⟩
 case round=>
  obtain ⟨k,hk,rfl,rfl,y,J,D⟩:=hrel;have O:=aM0 k p h0 h1;have L:=aLL k p
  by_cases d0:k+1<n
  ·have HS:Hid (st (k+1) p=((st k p).1 / 64,(128+(st k p).1%64)::(st k p).2)):=rfl;have A:=World.ownsRow_lit (base:=w.heap.size) (e:=5) (size:=1) wr #[.int .u8 (128+(st k p).1%64)] 1 D.size (by unfold maxLen;omega) rfl;generalize (st k p).1=x at O HS A;generalize (st k p).2=ts at L y HS;obtain ⟨c0,b8⟩:=O;have hm:(128+x%64)%256=128+x%64:=by omega
   by_cases a6:k=0
   ·have c1:ts=[]:=List.eq_nil_of_length_eq_zero (by omega);subst c1;rw [J a6];clear J L
    go_wp2_with (at_builtin;refine wpList_append_own_none rfl _ _ 27 rfl w.heap.size 5 i0 1 underlying27 hi _ _ _ rfl A rfl ?_)
    go_roundw
    case rel=>exact ⟨1,by omega,rfl,by subst a6;rw [HS.out],by subst a6;rw [HS.out];exact A,fun h=>by omega,D.alloc D.size _⟩
    case measure=>simp [intOf];omega
   ·have a5:∃ g cap,∃ t',t'=Value.slice (some ⟨g,0,none⟩) ts.length cap/\t'=u4:=by
     rcases y.2 with ⟨_,h⟩ | ⟨g,cap,c2,h,_⟩
     ·omega
     ·exact ⟨g,cap,_,rfl,h.symm⟩
    obtain ⟨g,cap,t',G,H⟩:=a5;rw [<- H] at y;rw [<- H,G];rw [G] at y;clear H G J;have E:=World.ownsRow.cells (World.ownsRow.alloc y (.cells #[.int .u8 (128+x%64)] 5)) (g:=g) rfl
    go_wp2_with (at_builtin;refine wpList_append_own _ rfl _ _ 27 rfl w.heap.size 5 i0 (.int .u8 0) 1 1 underlying27 hi N S Y rfl (by decide) _ _ _ rfl A ⟨g,0,none⟩ ts.length cap (ts.map (Value.int .u8)) rfl (by simp) E (ints_oneCell _ _) (by unfold maxLen;omega) (by omega) (by have:=D.size;simp;omega) ?_;intro v' w1 u j _)
    have R:=vL D.size _ u (by omega) j;clear u j y E A;go_wp2
    go_roundw
    case rel=>exact ⟨k+1,by omega,by go_num,by rw [HS.out],by rw [HS.out];exact R.1,fun h=>by omega,D.trans R.2⟩
    case measure=>simp [intOf];omega
  ·have U:k=n - 1:=(by omega);rw [<- U] at hx;generalize b2:(st k p).1=x at O hx;generalize b4:(st k p).2=ts at L y;have Z:Hid ((st (n - 1) p).1=x):=(by unfold Hid;rw [<- U];exact b2);have a7:Hid ((st (n - 1) p).2=ts):=by unfold Hid;rw [<- U];exact b4
   have a5:∃ g cap,∃ t',t'=Value.slice (some ⟨g,0,none⟩) ts.length cap/\t'=u4:=by
    rcases y.2 with ⟨_,h⟩ | ⟨g,cap,c2,h,_⟩
    ·omega
    ·exact ⟨g,cap,_,rfl,h.symm⟩
   obtain ⟨g,cap,t',G,H⟩:=a5;rw [<- H] at y;rw [<- H,G];rw [G] at y;have E:=fun X=>World.ownsRow.cells (World.ownsRow.alloc y (.cells #[.int .u8 X] 5)) (g:=g) rfl;have A:=fun X=>World.ownsRow_lit (base:=w.heap.size) (e:=5) (size:=1) wr #[.int .u8 X] 1 D.size (by unfold maxLen;omega) rfl;clear H G J b2 b4 U;obtain ⟨c0,b8⟩:=O;obtain ⟨c8,c9⟩:=hx
   by_cases h3:n=3
   ·have M:f=224:=(by rw [hf,if_neg (by omega),if_pos h3]);have t3:((n:Int)==3)=true:=(by simp;omega);have t4:((n:Int)==4)=false:=(by simp;omega);subst M;clear h3 hf;have hm:(224+x)%256=224+x:=by omega
    go_wp2_with (at_builtin;refine wpList_append_own _ rfl _ _ 27 rfl w.heap.size 5 i0 (.int .u8 0) 1 1 underlying27 hi N S Y rfl (by decide) _ _ _ rfl (A (224+x)) ⟨g,0,none⟩ ts.length cap (ts.map (Value.int .u8)) rfl (by simp) (E (224+x)) (ints_oneCell _ _) (by unfold maxLen;omega) (by omega) (by have:=D.size;simp;omega) ?_;intro v' w1 u j _)
    have R:=vL D.size _ u (by omega) j;clear u j y E A;go_wp2;go_ret;exact ⟨_,rfl,by rw [Z.out,a7.out];exact R.1,D.trans R.2⟩
   ·by_cases h4:n=4
    ·have M:f=240:=(by rw [hf,if_neg (by omega),if_neg h3]);have t3:((n:Int)==3)=false:=(by simp;omega);have t4:((n:Int)==4)=true:=(by simp;omega);subst M;clear h3 hf h4;have hm:(240+x)%256=240+x:=by omega
     go_wp2_with (at_builtin;refine wpList_append_own _ rfl _ _ 27 rfl w.heap.size 5 i0 (.int .u8 0) 1 1 underlying27 hi N S Y rfl (by decide) _ _ _ rfl (A (240+x)) ⟨g,0,none⟩ ts.length cap (ts.map (Value.int .u8)) rfl (by simp) (E (240+x)) (ints_oneCell _ _) (by unfold maxLen;omega) (by omega) (by have:=D.size;simp;omega) ?_;intro v' w1 u j _)
     have R:=vL D.size _ u (by omega) j;clear u j y E A;go_wp2;go_ret;exact ⟨_,rfl,by rw [Z.out,a7.out];exact R.1,D.trans R.2⟩
    ·have M:f=192:=(by rw [hf,if_pos (by omega)]);have t3:((n:Int)==3)=false:=(by simp;omega);have t4:((n:Int)==4)=false:=(by simp;omega);subst M;clear h3 hf h4;have hm:(192+x)%256=192+x:=by omega
     go_wp2_with (at_builtin;refine wpList_append_own _ rfl _ _ 27 rfl w.heap.size 5 i0 (.int .u8 0) 1 1 underlying27 hi N S Y rfl (by decide) _ _ _ rfl (A (192+x)) ⟨g,0,none⟩ ts.length cap (ts.map (Value.int .u8)) rfl (by simp) (E (192+x)) (ints_oneCell _ _) (by unfold maxLen;omega) (by omega) (by have:=D.size;simp;omega) ?_;intro v' w1 u j _)
     have R:=vL D.size _ u (by omega) j;clear u j y E A;go_wp2;go_ret;exact ⟨_,rfl,by rw [Z.out,a7.out];exact R.1,D.trans R.2⟩
theorem aDw (p:Int) (w:World) (E:0<=p) (D:p<128) (j:cM p=1) :
  Calls prog 106 #[.int .i64 p] w fun e w'=>∃ u,e=.returned u/\OwB w.heap.size w' u [p]/\Below w.heap.size w w':=by
 have y:Hid (cM p=1):=j;clear j;have A:p%256=p:=(by omega);have h:=World.ownsRow_lit (base:=w.heap.size) (e:=5) (size:=1) w #[.int .u8 p] 1 (Nat.le_refl _) (by unfold maxLen;omega) rfl
 go_enter func106,ntmps106
 go_wp2_with (go_at_call 104;refine (jJ _ _).mono ?_;rintro e w' ⟨rfl,rfl⟩;rw [y.out])
 go_ret;exact ⟨_,rfl,h,(Below.refl _ _).alloc (Nat.le_refl _) _⟩
theorem aDj (p:Int) (w:World) (h:bW p=true) :
  Calls prog 106 #[.int .i64 p] w fun e w'=>∃ A,e=.returned A/\OwB w.heap.size w' A (enc p)/\Below w.heap.size w w':=by
 obtain ⟨⟨u,y⟩,J⟩:=aGV h;have L:=aCP p h
 by_cases D:cM p=1
 ·have j:=aAp h D;rw [xO p j];exact aDw p w u j D
 ·by_cases G:cM p=2
  ·have j:=aAM h G;rw [<- st2 p j.1 j.2];exact oA p 2 192 w u y G (by omega) (by omega) rfl (by simp only [st];omega)
  ·by_cases H:cM p=3
   ·have j:=tR h H;rw [<- st3 p j.1 j.2];exact oA p 3 224 w u y H (by omega) (by omega) rfl (by simp only [st];omega)
   ·have E:cM p=4:=(by omega);have j:=xG h E;rw [<- st4 p j];exact oA p 4 240 w u y E (by omega) (by omega) rfl (by simp only [st];omega)
theorem aJB {s:List Int} (H:1<=s.length) (E:(0:Int)<=s[0]?.getD 0) (y:s[0]?.getD 0<128):aM s=1/\lv s 1=s[0]?.getD 0:=by
 have j:lv s 1=s[0]?.getD 0:=by
  rw [jX H (by rw [lM _ y];omega),lM _ y];rfl
 have D:bW (s[0]?.getD 0)=true:=(by simp [bW];omega);have h:cM (s[0]?.getD 0)=1:=(by unfold cM;rw [if_pos D,if_pos y]);have u:hit s 1=true:=(fQ j E).2 h;refine ⟨?_,j⟩;rw [bL (n:=1) (by omega) (by omega) (fun m J G A=>cL (aBE E y m J G A)),if_pos u]
theorem aL9 {s:List Int} {y:Int} (A:s[0]?.getD 0 / 32=6) (E:eF s 1) (H:y=s[0]?.getD 0%32*64+s[1]?.getD 0%64) (L:0<=y) (D:cM y=2):aM s=2/\lv s 2=y:=by
 have h:lv s 2=y:=(by rw [H];exact lv2 A E);have j:hit s 2=true:=(fQ h L).2 D;refine ⟨?_,h⟩;rw [bL (n:=2) (by omega) (by omega) (fun m J G u=>cL (pB A m J G u)),if_pos j]
theorem aHI {s:List Int} {y:Int} (A:s[0]?.getD 0 / 16=14) (G:eF s 1) (E:eF s 2) (H:y=(s[0]?.getD 0%16*64+s[1]?.getD 0%64)*64+s[2]?.getD 0%64) (M:0<=y) (D:cM y=3):aM s=3/\lv s 3=y:=by
 have h:lv s 3=y:=(by rw [H];exact lv3 A G E);have j:hit s 3=true:=(fQ h M).2 D;refine ⟨?_,h⟩;rw [bL (n:=3) (by omega) (by omega) (fun m L J u=>cL (mJ A m L J u)),if_pos j]
theorem aJ1 {s:List Int} {y:Int} (A:s[0]?.getD 0 / 8=30) (G:eF s 1) (E:eF s 2) (L:eF s 3)
  (H:y=((s[0]?.getD 0%8*64+s[1]?.getD 0%64)*64+s[2]?.getD 0%64)*64+s[3]?.getD 0%64) (N:0<=y) (D:cM y=4):aM s=4/\lv s 4=y:=by
 have h:lv s 4=y:=(by rw [H];exact lv4 A G E L);have j:hit s 4=true:=(fQ h N).2 D;refine ⟨?_,h⟩;rw [bL (n:=4) (by omega) (by omega) (fun m M J u=>cL (kY A m M J u)),if_pos j]
theorem aLd (p:Int) (r:List Int) (h:bW p=true):aM (enc p++r)=(enc p).length/\lv (enc p++r) (enc p).length=p:=by
 obtain ⟨⟨u,G⟩,H⟩:=aGV h;have J:=aCP p h
 by_cases E:cM p=1
 ·have j:=aAp h E;rw [xO p j];have:=aJB (s:=[p]++r) (by simp) (by simpa using u) (by simpa using j);simpa using this
 ·by_cases A:cM p=2
  ·have j:=aAM h A;rw [aER p j.1 j.2];refine aL9 (by simp;omega) ⟨by simp,by simp;omega⟩ (by simp;omega) u A
  ·by_cases D:cM p=3
   ·have j:=tR h D;rw [aEP p j.1 j.2];refine aHI (by simp;omega) ⟨by simp,by simp;omega⟩ ⟨by simp,by simp;omega⟩ (by simp;omega) u D
   ·have y:cM p=4:=(by omega);have j:=xG h y;rw [aE5 p j];refine aJ1 (by simp;omega) ⟨by simp,by simp;omega⟩ ⟨by simp,by simp;omega⟩ ⟨by simp,by simp;omega⟩ (by simp;omega) u y
theorem aFP:∀ (q:List Int) (f k:Nat),q.all bW=true->(aQ q).length<=f->pts f (aQ q)=q/\err f (aQ q) k=none
 | [],f,k,_,_=>by simp [aQ,aC7,aGr]
 | p::q,f,k,h,hf=>by
   simp only [List.all_cons,Bool.and_eq_true] at h;have e:aQ (p::q)=enc p++aQ q:=(by simp [aQ]);have A:=uW p;rw [e] at hf ⊢;rw [List.length_append] at hf;obtain ⟨y,rfl⟩:∃ y,f=y+1:=⟨f - 1,by omega⟩;have u:=aLd p (aQ q) h.1;have j:enc p++aQ q≠[]:=fun h=>by have:=congrArg List.length h;simp at this;rw [this.1] at A;simp at A
   have D:aM (enc p++aQ q)≠0:=(by rw [u.1];omega);have ih:=aFP q y (k+aM (enc p++aQ q)) h.2 (by omega);rw [aC2 j D,aAm j D,u.1,u.2,List.drop_left];rw [u.1] at ih;exact ⟨by rw [ih.1],ih.2⟩
theorem aB7 {q:List Int} (h:q.all bW=true):eM (aCG q).1=(q,0,0):=by
 rw [qH q h];have:=aFP q (aQ q).length 0 h (Nat.le_refl _);rw [yT this.2,this.1]
theorem aAi {q:List Int} (h:q.all bW=true):aH (aCG q).1=(q.length:Int):=by
 unfold aH;rw [aB7 h];simp
theorem aKn {s:List Int} {n:Nat} (H:0<=lv s n) (j:Nat) (A:1<=j) (E:j<n):eF s j:=by
 have u:∀ j,1<=j->j<n->(∀ i,1<=i->i<j->eF s i)->eF s j:=by
  intro j A E y;apply Classical.byContradiction;intro G;have:=uE (n:=n) j A E y G;omega
 induction j using Nat.strongRecOn with
 | _ j ih=>exact u j A E (fun i h D=>ih i D h (by omega))
theorem aJr {s:List Int} {n:Nat} (h:0<=lv s n):n<=s.length/\0<=hZ n (s[0]?.getD 0):=by
 unfold lv at h
 split at h
 ·omega
 ·split at h
  ·omega
  ·omega
theorem aEu (s:List Int) (h:2<=s.length):s.take 2=[s[0]?.getD 0,s[1]?.getD 0]:=by
 rw [dF s 1 (by omega),dF s 0 (by omega)];simp
theorem aAz (s:List Int) (h:3<=s.length):s.take 3=[s[0]?.getD 0,s[1]?.getD 0,s[2]?.getD 0]:=by
 rw [dF s 2 (by omega),aEu s (by omega)];simp
theorem aHg (s:List Int) (h:4<=s.length):s.take 4=[s[0]?.getD 0,s[1]?.getD 0,s[2]?.getD 0,s[3]?.getD 0]:=by
 rw [dF s 3 (by omega),aAz s (by omega)];simp
theorem aL4 {s:List Int} {n:Nat} (j:Bys s) (h1:1<=n) (h4:n<=4) (h:hit s n=true):enc (lv s n)=s.take n/\bW (lv s n)=true:=by
 have U:=aGe h
 have D:cM (lv s n)=n:=by
  simp only [hit,Bool.and_eq_true,beq_iff_eq] at h;exact h.2
 have y:bW (lv s n)=true:=by
  cases ho:bW (lv s n)
  ·have:cM (lv s n)=0:=by simp [cM,ho]
   omega
  ·rfl
 refine ⟨?_,y⟩;obtain ⟨L,A⟩:=aJr U;have b0:=j.get 0;have u:=aKn U
 by_cases e1:n=1
 ·subst e1;have G:=aAp y D
  have H:s[0]?.getD 0<128:=by
   apply Classical.byContradiction;intro M;rw [lA 1 _ (by omega) (by omega) (by omega) (by omega)] at A;omega
  have hv:=(aJB L b0.1 H).2;rw [hv,xO _ H];rw [dF s 0 (by omega)];simp
 ·by_cases Y:n=2
  ·subst Y;have G:=aAM y D
   have H:s[0]?.getD 0 / 32=6:=by
    apply Classical.byContradiction;intro M;rw [lA 2 _ (by omega) (by omega) (by omega) (by omega)] at A;omega
   have E:=u 1 (by omega) (by omega);have hv:=lv2 H E;have O:=j.get 1;have N:=E.2;rw [aER _ G.1 G.2,aEu s L,hv];simp only [List.cons.injEq,and_true];omega
  ·by_cases e3:n=3
   ·subst e3;have G:=tR y D
    have H:s[0]?.getD 0 / 16=14:=by
     apply Classical.byContradiction;intro M;rw [lA 3 _ (by omega) (by omega) (by omega) (by omega)] at A;omega
    have E:=u 1 (by omega) (by omega);have J:=u 2 (by omega) (by omega);have hv:=lv3 H E J;have O:=j.get 1;have X:=j.get 2;have N:=E.2;have Z:=J.2;rw [aEP _ G.1 G.2,aAz s L,hv];simp only [List.cons.injEq,and_true];omega
   ·have e4:n=4:=(by omega);subst e4;have G:=xG y D
    have H:s[0]?.getD 0 / 8=30:=by
     apply Classical.byContradiction;intro M;rw [lA 4 _ (by omega) (by omega) (by omega) (by omega)] at A;omega
    have E:=u 1 (by omega) (by omega);have J:=u 2 (by omega) (by omega);have S:=u 3 (by omega) (by omega);have hv:=lv4 H E J S;have O:=j.get 1;have X:=j.get 2;have b3:=j.get 3;have N:=E.2;have Z:=J.2;have d3:=S.2;rw [aE5 _ G,aHg s L,hv];simp only [List.cons.injEq,and_true];omega
theorem aG6 {s:List Int} (h:aM s≠0):hit s (aM s)=true:=by
 unfold aM at h ⊢
 split
 ·assumption
 ·split
  ·assumption
  ·split
   ·assumption
   ·split
    ·assumption
    ·simp_all
theorem aKk (f:Nat):∀ (s:List Int) (k:Nat),Bys s->s.length<=f->err f s k=none->aQ (pts f s)=s/\(pts f s).all bW=true:=by
 induction f with
 | zero=>
   intro s k _ G _;have:s=[]:=List.eq_nil_of_length_eq_zero (by omega);subst this;simp [pts,aQ]
 | succ f ih=>
   intro s k h G u
   by_cases y:s=[]
   ·subst y;simp [aC7,aQ]
   ·by_cases j:aM s=0
    ·rw [aDc y j] at u;cases u
    ·rw [aAm y j] at u;rw [aC2 y j];have E:=aFc s;have A:=aL4 h (by omega) E (aG6 j);have D:=ih (s.drop (aM s)) (k+aM s) (fun z H=>h z (List.mem_of_mem_drop H)) (by rw [List.length_drop];omega) u;have e:aQ (lv s (aM s)::pts f (s.drop (aM s)))=enc (lv s (aM s))++aQ (pts f (s.drop (aM s))):=(by simp [aQ]);rw [e,A.1,D.1,List.take_append_drop];exact ⟨rfl,by simp [A.2,D.2]⟩
theorem uB {c:List Int} (u:Bys c) (h:(eM c).2.1=0):aCG (eM c).1=(c,0):=by
 cases j:err c.length c 0 with
 | none=>
   rw [yT j];have:=aKk c.length c 0 u (Nat.le_refl _) j;rw [qH _ this.2,this.1]
 | some k=>rw [aAU j] at h;simp at h
theorem aB6 {c:List Int} (h:(eM c).2.1≠0):aH c = -1:=by unfold aH;rw [if_neg h]
end Go.Proofs.YtgifkcpdihphlaaGreatDoor
namespace Go.Proofs.YtgifkcpdihphlaaGreatDoor
open Tryz
structure Pc where
 k:Int
 t:List Int
 n:Int
deriving Inhabited
def ar (k:Int):Nat:=if k=6\/k=9 then 2 else if k=7\/k=8 then 1 else 0
def lY (p:Pc):Bool:=
 decide (0<=p.k/\p.k<=9)&&(if p.k=1 then !p.t.contains 10&&decide (0<=aH p.t) else p.t.isEmpty)&&(if p.k=7 then decide (0<=p.n) else decide (p.n=0))
inductive Tr where
 | leaf (p:Pc)
 | un (p:Pc) (x:Tr)
 | bin (p:Pc) (x y:Tr)
def cR:List Pc->Int
 | []=>0
 | p::ps=>p.t.length+cR ps
def kE:List Pc->Nat->List Int->List Int->List Int × List Int
 | [],_,op,out=>(out,op)
 | p::ps,i,op,out=>
   if op.length<ar p.k then (out,op)
   else
    let s:Int:=if ar p.k=0 then (i:Int) else op[ar p.k - 1]?.getD 0
    kE ps (i+1) (s::op.drop (ar p.k)) (out++[s])
def cK (doc:List Pc):List Int:=if (kE doc 0 [] []).2.length=1 then (kE doc 0 [] []).1 else []
def kA:Tr->Int
 | .leaf _=>0
 | .un p x=>if kA x > 4000\/p.n > 4000 then 4001 else p.n+kA x
 | .bin _ x y=>if kA x > kA y then kA x else kA y
def dO:Tr->Int
 | .leaf _=>0
 | .un p x=>dO x+p.n
 | .bin _ x y=>max (dO x) (dO y)
def dE (st:List Tr) (p:Pc):Option (List Tr):=
 if ar p.k=0 then some (.leaf p::st)
 else if ar p.k=1 then (match st with | x::r=>some (.un p x::r) | []=>none)
 else (match st with | y::x::r=>some (.bin p x y::r) | _=>none)
def bd:List Pc->List Tr->Option (List Tr)
 | [],st=>some st
 | p::ps,st=>(dE st p).bind (bd ps)
def Seg (doc:List Pc) (st:List Int):Tr->Nat->Nat->Prop
 | .leaf p,a,b=>b=a+1/\doc[a]?=some p/\ar p.k=0/\st[a]?=some (a:Int)
 | .un p x,a,b=>∃ m,b=m+1/\doc[m]?=some p/\ar p.k=1/\st[m]?=some (a:Int)/\Seg doc st x a m
 | .bin p x y,a,b=>∃ c m,b=m+1/\doc[m]?=some p/\ar p.k=2/\st[m]?=some (a:Int)/\Seg doc st x a c/\Seg doc st y c m
theorem Seg.lt {doc:List Pc} {st:List Int} : ∀ {T:Tr} {a b:Nat},Seg doc st T a b->a<b
 | .leaf _,_,_,h=>by obtain ⟨h,_⟩:=h;omega
 | .un _ _,_,_,h=>by obtain ⟨m,h,_,_,_,j⟩:=h;have:=j.lt;omega
 | .bin _ _ _,_,_,h=>by obtain ⟨c,m,h,_,_,_,j,u⟩:=h;have:=j.lt;have:=u.lt;omega
theorem Seg.last {doc:List Pc} {st:List Int} : ∀ {T:Tr} {a b:Nat},Seg doc st T a b->st[b - 1]?=some (a:Int)
 | .leaf _,_,_,h=>by obtain ⟨h,_,_,j⟩:=h;subst h;exact j
 | .un _ _,_,_,h=>by obtain ⟨m,h,_,_,j,u⟩:=h;subst h;exact j
 | .bin _ _ _,_,_,h=>by obtain ⟨c,m,h,_,_,j,u,y⟩:=h;subst h;exact j
theorem Seg.more {doc:List Pc} {st:List Int} (xs:List Int):∀ {T:Tr} {a b:Nat},Seg doc st T a b->Seg doc (st++xs) T a b
 | .leaf _,_,_,h=>by
   obtain ⟨h,y,u,j⟩:=h;exact ⟨h,y,u,by rw [List.getElem?_append_left (List.getElem?_eq_some_iff.1 j).1];exact j⟩
 | .un _ _,_,_,h=>by
   obtain ⟨m,h,y,u,j,A⟩:=h;exact ⟨m,h,y,u,by rw [List.getElem?_append_left (List.getElem?_eq_some_iff.1 j).1];exact j,A.more xs⟩
 | .bin _ _ _,_,_,h=>by
   obtain ⟨c,m,h,y,u,j,A,D⟩:=h;exact ⟨c,m,h,y,u,by rw [List.getElem?_append_left (List.getElem?_eq_some_iff.1 j).1];exact j,A.more xs,D.more xs⟩
def Stk (doc:List Pc) (out:List Int):List Tr->List Int->Nat->Prop
 | [],op,e=>op=[]/\e=0
 | T::st,op,e=>∃ (m:Nat) (r:List Int),op=(m:Int)::r/\Seg doc out T m e/\Stk doc out st r m
theorem Stk.len {doc:List Pc} {out:List Int} : ∀ {st:List Tr} {op:List Int} {e:Nat},Stk doc out st op e->op.length=st.length
 | [],_,_,h=>by rw [h.1];rfl
 | _::_,_,_,h=>by obtain ⟨m,r,rfl,_,j⟩:=h;simp [j.len]
theorem Stk.more {doc:List Pc} {out:List Int} (xs:List Int):∀ {st:List Tr} {op:List Int} {e:Nat},Stk doc out st op e->Stk doc (out++xs) st op e
 | [],_,_,h=>h
 | _::_,_,_,h=>by obtain ⟨m,r,rfl,u,j⟩:=h;exact ⟨m,r,rfl,u.more xs,j.more xs⟩
theorem zV (k:Int):ar k=0\/ar k=1\/ar k=2:=by
 unfold ar
 split
 ·simp
 ·split<;>simp
theorem aFM (doc:List Pc):∀ (ps j:List Pc) (op out:List Int) (st:List Tr),doc=j++ps->out.length=j.length->Stk doc out st op j.length->
  ((kE ps j.length op out).1.length=doc.length/\∃ u,bd ps st=some u/\Stk doc (kE ps j.length op out).1 u (kE ps j.length op out).2 doc.length)\/
  ((kE ps j.length op out).1.length<doc.length/\bd ps st=none)
 | [],j,op,out,st,hd,ho,hs=>by
   simp only [List.append_nil] at hd;subst hd;exact .inl ⟨ho,st,rfl,hs⟩
 | p::ps,j,op,out,st,hd,ho,hs=>by
   have E:=hs.len;have H:doc[j.length]?=some p:=(by rw [hd];simp);have Y:doc.length=j.length+(ps.length+1):=(by rw [hd];simp);unfold kE
   by_cases M:op.length<ar p.k
   ·rw [if_pos M];refine .inr ⟨by show out.length<_;omega,?_⟩;rcases zV p.k with h | h | h
    ·omega
    ·have:st=[]:=by rw [<- List.length_eq_zero_iff];omega
     subst this;simp [bd,dE,h]
    ·rcases st with _ | ⟨x,_ | ⟨y,r⟩⟩
     ·simp [bd,dE,h]
     ·simp [bd,dE,h]
     ·simp only [List.length_cons] at E;omega
   ·rw [if_neg M];have D:(j++[p]).length=j.length+1:=by simp
    have key:∀ (s:Int) (A:List Tr),dE st p=some A->Stk doc (out++[s]) A (s::op.drop (ar p.k)) (j.length+1)->
      ((kE ps (j.length+1) (s::op.drop (ar p.k)) (out++[s])).1.length=doc.length/\∃ u,bd (p::ps) st=some u/\Stk doc (kE ps (j.length+1) (s::op.drop (ar p.k)) (out++[s])).1 u (kE ps (j.length+1) (s::op.drop (ar p.k)) (out++[s])).2 doc.length)\/
      ((kE ps (j.length+1) (s::op.drop (ar p.k)) (out++[s])).1.length<doc.length/\bd (p::ps) st=none):=by
     intro s A U X;have:=aFM doc ps (j++[p]) (s::op.drop (ar p.k)) (out++[s]) A (by rw [hd];simp) (by simp [ho]) (by rw [D];exact X);rw [D] at this;simpa [bd,U] using this
    rcases zV p.k with h | h | h
    ·simp only [h,if_true];have:=key (j.length:Int) (.leaf p::st) (by simp [dE,h]) ⟨j.length,_,rfl,⟨rfl,H,h,by rw [List.getElem?_append_right (by omega)];simp [ho]⟩,by rw [h];exact hs.more _⟩;simpa [h] using this
    ·rcases st with _ | ⟨x,r⟩
     ·simp only [List.length_nil] at E;omega
     ·obtain ⟨m,N,rfl,J,G⟩:=hs;have:=key (m:Int) (.un p x::r) (by simp [dE,h]) ⟨m,_,rfl,⟨j.length,rfl,H,h,by rw [List.getElem?_append_right (by omega)];simp [ho],J.more _⟩,by rw [h];exact G.more _⟩;simpa [h] using this
    ·rcases st with _ | ⟨y,_ | ⟨x,r⟩⟩
     ·simp only [List.length_nil] at E;omega
     ·simp only [List.length_cons,List.length_nil] at E;omega
     ·obtain ⟨m,N,rfl,O,L,S,rfl,J,G⟩:=hs;have:=key (L:Int) (.bin p x y::r) (by simp [dE,h]) ⟨L,_,rfl,⟨m,j.length,rfl,H,h,by rw [List.getElem?_append_right (by omega)];simp [ho],J.more _,O.more _⟩,by rw [h];exact G.more _⟩;simpa [h] using this
theorem xP (doc:List Pc) (L:doc≠[]) :
  ((cK doc).length=doc.length/\∃ T,bd doc []=some [T]/\Seg doc (cK doc) T 0 doc.length)\/((cK doc).length≠doc.length/\∀ T,bd doc []≠some [T]):=by
 have S:0<doc.length:=List.length_pos_iff.2 L;have:=aFM doc doc [] [] [] [] (by simp) rfl ⟨rfl,rfl⟩;simp only [List.length_nil] at this;unfold cK;rcases this with ⟨G,D,A,E⟩ | ⟨G,A⟩
 ·by_cases h:(kE doc 0 [] []).2.length=1
  ·rw [if_pos h];have u:=E.len;rcases D with _ | ⟨T,_ | ⟨y,r⟩⟩
   ·simp only [List.length_nil] at u;omega
   ·obtain ⟨m,N,M,J,O,H⟩:=E;subst H;exact .inl ⟨G,T,A,J⟩
   ·simp only [List.length_cons] at u;omega
  ·rw [if_neg h];refine .inr ⟨by simp;omega,fun T j=>?_⟩;rw [A] at j;have:=E.len;simp at j;subst j;simp at this;omega
 ·refine .inr ⟨?_,fun T j=>by rw [A] at j;cases j⟩
  split
  ·omega
  ·simp;omega
def iQ (doc:List Pc):Bool:=
 decide (1<=doc.length/\doc.length<=40000)&&doc.all lY&&decide (cR doc<=100000)&&decide ((cK doc).length=doc.length)&&(match bd doc [] with | some [T]=>decide (kA T<=4000) | _=>false)
def bP (room:Int) (st:List (Tr × Int)) (p:Pc):Option (Int × List (Tr × Int)):=
 if (p.k≠1/\0<p.t.length)\/(p.k≠7/\p.n≠0) then none
 else if p.k=1 then (if room<p.t.length then none else if aH p.t<0\/p.t.contains 10=true then none else some (room - p.t.length,(.leaf p,0)::st))
 else if p.k=0\/p.k=2\/p.k=3\/p.k=4\/p.k=5 then some (room,(.leaf p,0)::st)
 else if p.k=6\/p.k=9 then (match st with | (y,ny)::(x,nx)::r=>some (room,(.bin p x y,max nx ny)::r) | _=>none)
 else if p.k=7\/p.k=8 then (match st with | (x,nx)::r=>if p.n<0\/4000 - nx<p.n then none else some (room,(.un p x,nx+p.n)::r) | _=>none)
 else none
def lP:List Pc->Int->List (Tr × Int)->Option (List (Tr × Int))
 | [],_,st=>some st
 | p::ps,room,st=>(bP room st p).bind fun (r,s)=>lP ps r s
def aEE (st:List (Tr × Int)):Prop:=∀ x∈st,x.2=dO x.1/\0<=x.2/\x.2<=4000
def okN:Tr->Prop
 | .leaf _=>True
 | .un p x=>0<=p.n/\okN x
 | .bin _ x y=>okN x/\okN y
theorem oS:∀ (T:Tr),okN T->0<=dO T
 | .leaf _,_=>by simp [dO]
 | .un p x,h=>by have:=oS x h.2;have:=h.1;simp only [dO];omega
 | .bin _ x y,h=>by have:=oS x h.1;simp only [dO];omega
theorem rV:∀ (T:Tr),okN T->(dO T<=4000/\kA T=dO T)\/(4000<dO T/\4000<kA T)
 | .leaf _,_=>by simp [dO,kA]
 | .un p x,h=>by
   have u:=rV x h.2;have j:=oS x h.2;have:=h.1;simp only [dO,kA]
   split<;>omega
 | .bin _ x y,h=>by
   have u:=rV x h.1;have j:=rV y h.2;simp only [dO,kA]
   split<;>omega
theorem aCB:∀ (ps:List Pc) (st r:List Tr),ps.all lY=true->(∀ x∈st,okN x)->bd ps st=some r->∀ x∈r,okN x
 | [],st,r,_,hs,h=>by simp [bd] at h;subst h;exact hs
 | p::ps,st,r,ha,hs,h=>by
   simp only [List.all_cons,Bool.and_eq_true] at ha;simp only [bd] at h;obtain ⟨A,u,D⟩:=Option.bind_eq_some_iff.1 h;refine aCB ps A r ha.2 ?_ D
   have y:0<=p.n:=by
    have:=ha.1;simp only [lY,Bool.and_eq_true] at this;have:=this.2
    split at this<;>simp at this<;>omega
   unfold dE at u
   split at u
   ·cases u;intro x j;rcases List.mem_cons.1 j with rfl | j
    ·trivial
    ·exact hs x j
   ·split at u
    ·split at u
     ·cases u;intro x j;rcases List.mem_cons.1 j with rfl | j
      ·exact ⟨y,hs _ (by simp)⟩
      ·exact hs x (by simp [j])
     ·cases u
    ·split at u
     ·cases u;intro x j;rcases List.mem_cons.1 j with rfl | j
      ·exact ⟨hs _ (by simp),hs _ (by simp)⟩
      ·exact hs x (by simp [j])
     ·cases u
theorem aGf:∀ (ps:List Pc) (st r:List Tr),ps.all lY=true->(∃ x∈st,4000<dO x)->bd ps st=some r->∃ x∈r,4000<dO x
 | [],st,r,_,hs,h=>by simp [bd] at h;subst h;exact hs
 | p::ps,st,r,ha,hs,h=>by
   simp only [List.all_cons,Bool.and_eq_true] at ha;simp only [bd] at h;obtain ⟨A,j,D⟩:=Option.bind_eq_some_iff.1 h;refine aGf ps A r ha.2 ?_ D
   have E:0<=p.n:=by
    have:=ha.1;simp only [lY,Bool.and_eq_true] at this;have:=this.2
    split at this<;>simp at this<;>omega
   obtain ⟨x,u,y⟩:=hs;unfold dE at j
   split at j
   ·cases j;exact ⟨x,by simp [u],y⟩
   ·split at j
    ·split at j
     ·cases j;rcases List.mem_cons.1 u with rfl | u
      ·exact ⟨_,List.mem_cons_self ..,by simp only [dO];omega⟩
      ·exact ⟨x,by simp [u],y⟩
     ·cases j
    ·split at j
     ·cases j;rcases List.mem_cons.1 u with rfl | u
      ·exact ⟨_,List.mem_cons_self ..,by simp only [dO];omega⟩
      ·rcases List.mem_cons.1 u with rfl | u
       ·exact ⟨_,List.mem_cons_self ..,by simp only [dO];omega⟩
       ·exact ⟨x,by simp [u],y⟩
     ·cases j
theorem fE (p:Pc):lY p=true ↔ (0<=p.k/\p.k<=9)/\(p.k=1->p.t.contains 10=false/\0<=aH p.t)/\(p.k≠1->p.t.length=0)/\(p.k=7->0<=p.n)/\(p.k≠7->p.n=0):=by
 unfold lY
 by_cases j:p.k=1<;>by_cases h:p.k=7<;>simp [j,h]<;>grind
theorem aBW (j:Int) (st:List (Tr × Int)) (p:Pc) (hr:0<=j) (L:aEE st) :
  (∃ s,bP j st p=some (j - p.t.length,s)/\lY p=true/\(p.t.length:Int)<=j/\dE (st.map (·.1)) p=some (s.map (·.1))/\aEE s)\/
  (bP j st p=none/\(lY p=false\/j<p.t.length\/dE (st.map (·.1)) p=none\/∃ s,dE (st.map (·.1)) p=some s/\∃ x∈s,4000<dO x)):=by
 by_cases O:(p.k≠1/\0<p.t.length)\/(p.k≠7/\p.n≠0)
 ·refine .inr ⟨by unfold bP;rw [if_pos O],.inl ?_⟩;rw [<- Bool.not_eq_true,fE];intro h;rcases O with G | G
  ·have:=h.2.2.1 G.1;omega
  ·exact G.2 (h.2.2.2.2 G.1)
 ·have A:p.k≠1->p.t.length=0:=fun h=>by omega
  have D:p.k≠7->p.n=0:=fun h=>by omega
  unfold bP;rw [if_neg O]
  by_cases M:p.k=1
  ·rw [if_pos M]
   by_cases X:j<p.t.length
   ·rw [if_pos X];exact .inr ⟨rfl,.inr (.inl X)⟩
   ·rw [if_neg X]
    by_cases E:aH p.t<0\/p.t.contains 10=true
    ·rw [if_pos E];refine .inr ⟨rfl,.inl ?_⟩;rw [<- Bool.not_eq_true,fE];intro h;have:=h.2.1 M;rcases E with E | E
     ·omega
     ·rw [this.1] at E;cases E
    ·rw [if_neg E];refine .inl ⟨_,rfl,?_,by omega,by simp [dE,ar,M],?_⟩
     ·rw [fE];refine ⟨by omega,fun _=>⟨?_,by omega⟩,A,by omega,D⟩;cases h:p.t.contains 10
      ·rfl
      ·exact absurd (.inr h) E
     ·intro x J;rcases List.mem_cons.1 J with rfl | J
      ·simp [dO]
      ·exact L x J
  ·have S:=A M;rw [if_neg M]
   by_cases Z:p.k=0\/p.k=2\/p.k=3\/p.k=4\/p.k=5
   ·rw [if_pos Z];refine .inl ⟨_,by rw [S];simp;rfl,?_,by omega,?_,?_⟩
    ·rw [fE];exact ⟨by omega,by omega,A,by omega,D⟩
    ·have:ar p.k=0:=by unfold ar;rw [if_neg (by omega),if_neg (by omega)]
     simp [dE,this]
    ·intro x J;rcases List.mem_cons.1 J with rfl | J
     ·simp [dO]
     ·exact L x J
   ·rw [if_neg Z]
    by_cases N:p.k=6\/p.k=9
    ·rw [if_pos N];have u:ar p.k=2:=(by unfold ar;rw [if_pos N]);have Y:lY p=true:=(by rw [fE];exact ⟨by omega,by omega,A,by omega,D⟩);rcases st with _ | ⟨⟨y,ny⟩,_ | ⟨⟨x,nx⟩,r⟩⟩
     ·exact .inr ⟨rfl,.inr (.inr (.inl (by simp [dE,u])))⟩
     ·exact .inr ⟨rfl,.inr (.inr (.inl (by simp [dE,u])))⟩
     ·refine .inl ⟨_,by rw [S];simp;rfl,Y,by omega,by simp [dE,u],?_⟩;intro z H;rcases List.mem_cons.1 H with rfl | H
      ·have G:=L (x,nx) (by simp);have h2:=L (y,ny) (by simp);simp only [dO] at G h2 ⊢;omega
      ·exact L z (by simp [H])
    ·rw [if_neg N]
     by_cases U:p.k=7\/p.k=8
     ·rw [if_pos U];have u:ar p.k=1:=(by unfold ar;rw [if_neg N,if_pos U]);rcases st with _ | ⟨⟨x,nx⟩,r⟩
      ·exact .inr ⟨rfl,.inr (.inr (.inl (by simp [dE,u])))⟩
      ·have G:=L (x,nx) (by simp);simp only at G
       by_cases hN:p.n<0\/4000 - nx<p.n
       ·simp only [if_pos hN];refine .inr ⟨trivial,?_⟩
        by_cases hn:p.n<0
        ·refine .inl ?_;rw [<- Bool.not_eq_true,fE];intro h
         by_cases k7:p.k=7
         ·have:=h.2.2.2.1 k7;omega
         ·have:=h.2.2.2.2 k7;omega
        ·exact .inr (.inr (.inr ⟨.un p x::r.map (·.1),by simp [dE,u],.un p x,by simp,by simp only [dO];omega⟩))
       ·simp only [if_neg hN];refine .inl ⟨_,by rw [S];simp;rfl,?_,by omega,by simp [dE,u],?_⟩
        ·rw [fE];exact ⟨by omega,by omega,A,by omega,D⟩
        ·intro z H;rcases List.mem_cons.1 H with rfl | H
         ·simp only [dO];omega
         ·exact L z (by simp [H])
     ·rw [if_neg U];refine .inr ⟨rfl,.inl ?_⟩;rw [<- Bool.not_eq_true,fE];intro h;omega
theorem aLv:∀ (ps:List Pc) (j:Int) (st:List (Tr × Int)),0<=j->aEE st->
  (∃ s,lP ps j st=some s/\ps.all lY=true/\cR ps<=j/\bd ps (st.map (·.1))=some (s.map (·.1))/\aEE s)\/
  (lP ps j st=none/\(ps.all lY=false\/j<cR ps\/bd ps (st.map (·.1))=none\/∃ s,bd ps (st.map (·.1))=some s/\∃ x∈s,4000<dO x))
 | [],j,st,hr,hg=>.inl ⟨st,rfl,rfl,by simp [cR];exact hr,rfl,hg⟩
 | p::ps,j,st,hr,hg=>by
   have u:∀ qs:List Pc,0<=cR qs:=by
    intro qs
    induction qs with
    | nil=>simp [cR]
    | cons q qs ih=>simp only [cR];omega
   have S:=u ps;rcases aBW j st p hr hg with ⟨s,y,G,X,J,U⟩ | ⟨y,G⟩
   ·have ih:=aLv ps (j - p.t.length) s (by omega) U;simp only [lP,y,Option.bind_some,bd,J,List.all_cons,G,Bool.true_and,cR];rcases ih with ⟨H,D,A,Y,L,O⟩ | ⟨D,A⟩
    ·exact .inl ⟨H,D,A,by omega,L,O⟩
    ·refine .inr ⟨D,?_⟩;rcases A with i | i | i | i
     ·exact .inl i
     ·exact .inr (.inl (by omega))
     ·exact .inr (.inr (.inl i))
     ·exact .inr (.inr (.inr i))
   ·simp only [lP,y,Option.bind_none,bd,List.all_cons,cR];refine .inr ⟨trivial,?_⟩;rcases G with h | h | h | ⟨s,h,M⟩
    ·exact .inl (by rw [h];rfl)
    ·exact .inr (.inl (by omega))
    ·exact .inr (.inr (.inl (by rw [h];rfl)))
    ·by_cases E:ps.all lY=true
     ·rw [h,Option.bind_some];cases N:bd ps s with
      | none=>exact .inr (.inr (.inl rfl))
      | some r=>exact .inr (.inr (.inr ⟨r,rfl,aGf ps s r E M N⟩))
     ·exact .inl (by simp [Bool.not_eq_true] at E ⊢;exact fun _=>E)
theorem aJd (doc:List Pc) :
  (iQ doc=true/\doc.length<=40000/\∃ T n,bd doc []=some [T]/\lP doc 100000 []=some [(T,n)]/\Seg doc (cK doc) T 0 doc.length)\/
  (iQ doc=false/\(40000<doc.length\/lP doc 100000 []=none\/∃ s,lP doc 100000 []=some s/\s.length≠1)):=by
 by_cases O:doc=[]
 ·subst O;exact .inr ⟨rfl,.inr (.inr ⟨[],rfl,by simp⟩)⟩
 have E:1<=doc.length:=List.length_pos_iff.2 O
 by_cases U:doc.length<=40000
 ·have M:=xP doc O;rcases aLv doc 100000 [] (by omega) (fun x j=>by cases j) with ⟨s,H,G,Y,u,h5⟩ | ⟨H,G⟩
  ·rcases M with ⟨N,T,D,k3⟩ | ⟨N,D⟩
   ·simp only [List.map_nil] at u;rw [D] at u;rcases s with _ | ⟨⟨L,n⟩,_ | ⟨y,r⟩⟩
    ·simp at u
    ·simp at u;subst u;refine .inl ⟨?_,U,T,n,D,H,k3⟩;have A:=aCB doc [] [T] G (fun x j=>by cases j) D T (by simp);have X:=h5 (T,n) (by simp);simp only at X;have:=rV T A;simp only [iQ,N,D,G,E,U,Y];simp;omega
    ·simp at u
   ·refine .inr ⟨by simp [iQ,N],.inr (.inr ⟨s,H,fun S=>?_⟩)⟩;rcases s with _ | ⟨⟨L,n⟩,_ | ⟨y,r⟩⟩
    ·simp at S
    ·exact D L (by simpa using u)
    ·simp at S
  ·refine .inr ⟨?_,.inr (.inl H)⟩;rcases G with h | h | h | ⟨s,h,x,j,Z⟩
   ·simp [iQ,h]
   ·simp only [iQ];have:¬ (cR doc<=100000):=by omega
    simp [this]
   ·simp only [List.map_nil] at h;simp [iQ,h]
   ·simp only [List.map_nil] at h
    by_cases J:doc.all lY=true
    ·have A:=aCB doc [] s J (fun x j=>by cases j) h;rcases s with _ | ⟨L,_ | ⟨y,r⟩⟩
     ·simp [iQ,h]
     ·simp at j;subst j;have:=rV x (A x (by simp));have h6:¬ (kA x<=4000):=(by omega);simp [iQ,h,h6]
     ·simp [iQ,h]
    ·simp only [Bool.not_eq_true] at J;simp [iQ,J]
 ·refine .inr ⟨?_,.inl (by omega)⟩;simp only [iQ];have:¬ (1<=doc.length/\doc.length<=40000):=by omega
  simp [this]
def sz:Tr->Nat
 | .leaf p=>p.t.length+1
 | .un p x=>p.t.length+1+sz x
 | .bin p x y=>p.t.length+1+(sz x+sz y)
def szs:List Tr->Nat
 | []=>0
 | x::r=>sz x+szs r
theorem aF1:∀ (ps:List Pc) (st r:List Tr),bd ps st=some r->(szs r:Int)=szs st+cR ps+ps.length
 | [],st,r,h=>by simp [bd] at h;subst h;simp [cR]
 | p::ps,st,r,h=>by
   simp only [bd] at h;obtain ⟨u,j,y⟩:=Option.bind_eq_some_iff.1 h;have ih:=aF1 ps u r y
   have:(szs u:Int)=szs st+p.t.length+1:=by
    unfold dE at j
    split at j
    ·cases j;simp only [szs,sz];omega
    ·split at j
     ·split at j
      ·cases j;simp only [szs,sz];omega
      ·cases j
     ·split at j
      ·cases j;simp only [szs,sz];omega
      ·cases j
   simp only [cR,List.length_cons];omega
theorem aKp (doc:List Pc) (h:iQ doc=true) (T:Tr) (j:bd doc []=some [T]):sz T<=140000:=by
 have:=aF1 doc [] [T] j;simp only [iQ,Bool.and_eq_true,decide_eq_true_eq] at h;simp only [szs] at this;omega
def aE:Tr->List Int->Option (List Int)
 | .leaf p,out=>if p.k=0\/p.k=3 then some out else if p.k=1 then some (out++p.t) else if p.k=2 then some (out++[32]) else none
 | .un _ x,out=>aE x out
 | .bin p x y,out=>if p.k=6 then (aE x out).bind (aE y) else aE y out
theorem jQ:∀ (T:Tr) (out o:List Int),aE T out=some o->o.length<=out.length+sz T
 | .leaf p,out,o,h=>by
   unfold aE at h;simp only [sz]
   split at h
   ·cases h;omega
   ·split at h
    ·cases h;simp
    ·split at h
     ·cases h;simp
     ·cases h
 | .un p x,out,o,h=>by have:=jQ x out o h;simp only [sz];omega
 | .bin p x y,out,o,h=>by
   unfold aE at h;simp only [sz]
   split at h
   ·obtain ⟨j,A,u⟩:=Option.bind_eq_some_iff.1 h;have:=jQ x out j A;have:=jQ y j o u;omega
   ·have:=jQ y out o h;omega
def leadT:Tr->Int × Bool
 | .leaf p=>if p.k=0 then (0,false) else if p.k=1 then (aH p.t,false) else (0,true)
 | .un _ x=>leadT x
 | .bin p x y=>if p.k=9\/(leadT x).2=true then leadT x else ((leadT x).1+(leadT y).1,(leadT y).2)
theorem lG (h:∀ t,-1<=aH t/\aH t<=t.length):∀ (T:Tr),-(sz T:Int)<=(leadT T).1/\(leadT T).1<=sz T
 | .leaf p=>by
   have:=h p.t;unfold leadT;simp only [sz]
   split
   ·simp;omega
   ·split
    ·simp;omega
    ·simp;omega
 | .un p x=>by have:=lG h x;simp only [sz,leadT];omega
 | .bin p x y=>by
   have:=lG h x;have:=lG h y;unfold leadT;simp only [sz]
   split
   ·omega
   ·simp only;omega
theorem ar2 {k:Int} (h:ar k=2):k=6\/k=9:=by
 unfold ar at h
 split at h
 ·assumption
 ·split at h<;>cases h
theorem ar1 {k:Int} (h:ar k=1):k=7\/k=8:=by
 unfold ar at h
 split at h
 ·cases h
 ·split at h
  ·assumption
  ·cases h
def bY:Tr->Nat
 | .leaf _=>0
 | .un p x=>bY x+(if p.k=8 then 1 else 0)
 | .bin _ x y=>bY x+bY y
def grp (doc:List Pc) (i:Nat):Nat:=((doc.take i).filter (fun p=>p.k==8)).length
theorem aHK (doc:List Pc):grp doc 0=0:=by simp [grp]
theorem aAq (doc:List Pc) (i:Nat) (h:i<doc.length):grp doc (i+1)=grp doc i+(if doc[i].k=8 then 1 else 0):=by
 unfold grp;rw [List.take_add_one,List.getElem?_eq_getElem h,List.filter_append,List.length_append];congr 1
 by_cases j:doc[i].k=8
 ·simp [j]
 ·simp [j]
theorem yV {doc:List Pc} {st:List Int} : ∀ {T:Tr} {a b:Nat},Seg doc st T a b->grp doc b=grp doc a+bY T
 | .leaf p,a,b,h=>by
   obtain ⟨rfl,A,j,_⟩:=h;obtain ⟨D,u⟩:=List.getElem?_eq_some_iff.1 A;rw [aAq doc a D,u,if_neg (by intro e;rw [e] at j;simp [ar] at j)];simp [bY]
 | .un p x,a,b,h=>by
   obtain ⟨m,rfl,A,j,_,E⟩:=h;obtain ⟨D,u⟩:=List.getElem?_eq_some_iff.1 A;rw [aAq doc m D,u,yV E];simp only [bY];omega
 | .bin p x y,a,b,h=>by
   obtain ⟨c,m,rfl,A,j,_,E,G⟩:=h;obtain ⟨D,u⟩:=List.getElem?_eq_some_iff.1 A;rw [aAq doc m D,u,if_neg (by intro e;rw [e] at j;simp [ar] at j),yV G,yV E];simp only [bY];omega
def kB:List Tr->Int
 | []=>0
 | T::r=>if (leadT T).2=true then (leadT T).1 else (leadT T).1+kB r
def qL:Tr->Nat->List Int->List Int
 | .leaf _,_,met=>met
 | .un p x,n,met=>qL x n (if p.k=8 then met.set (n+bY x) 1 else met)
 | .bin p x y,n,met=>qL y (n+bY x) (if p.k=6 then qL x n met else met)
def aJ (ind:Int):List Int:=10::List.replicate ind.toNat 32
structure pZ where
 T:Tr
 n:Nat
 ind:Int
def lay (width:Int) (given:Option (List Int)):Nat->List pZ->List Int->List Int->Int->Option (List Int × List Int)
 | 0,_,_,_,_=>none
 | _+1,[],out,met,_=>some (out,met)
 | f+1,⟨.leaf p,_,ind⟩::rest,out,met,col=>
   if p.k=1 then lay width given f rest (out++p.t) met (col+aH p.t)
   else if p.k=5 then lay width given f rest (out++[10]) met 0
   else if p.k=2\/p.k=3\/p.k=4 then lay width given f rest (out++aJ ind) met ind
   else lay width given f rest out met col
 | f+1,⟨.bin p x y,n,ind⟩::rest,out,met,col=>
   if p.k=6 then lay width given f (⟨x,n,ind⟩::⟨y,n+bY x,ind⟩::rest) out met col
   else lay width given f (⟨x,n,ind⟩::rest) out met col
 | f+1,⟨.un p x,n,ind⟩::rest,out,met,col=>
   if p.k=7 then lay width given f (⟨x,n,ind+p.n⟩::rest) out met col
   else
    match given with
    | none=>
      match aE x [] with
      | some text=>
        if col+aH text+kB (rest.map (·.T))<=width then lay width given f rest (out++text) (qL (.un p x) n met) (col+aH text)
        else lay width given f (⟨x,n,ind⟩::rest) out (met.set (n+bY x) 2) col
      | none=>lay width given f (⟨x,n,ind⟩::rest) out (met.set (n+bY x) 2) col
    | some gs=>
      if gs[n+bY x]?.getD 0=1 then
       match aE x [] with
       | some text=>lay width given f rest (out++text) (qL (.un p x) n met) (col+aH text)
       | none=>none
      else if gs[n+bY x]?.getD 0=2 then lay width given f (⟨x,n,ind⟩::rest) out (met.set (n+bY x) 2) col
      else none
end Go.Proofs.YtgifkcpdihphlaaGreatDoor
