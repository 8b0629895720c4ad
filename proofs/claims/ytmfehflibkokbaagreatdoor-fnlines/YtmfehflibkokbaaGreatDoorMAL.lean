import Derived.Test.YtmfehflibkokbaaGreatDoorMAK
set_option maxHeartbeats 16000000
set_option maxRecDepth 100000
namespace Go.Proofs.YtmfehflibkokbaaGreatDoor
open Go.Proofs.Tryz
open Go.RowKit
theorem fT.first {B:Nat} {w A:World} {y k:Nat} {o:Option (Int × List (Tr × Int))} {e:Ending} {w':World} (D:Below B w A) (h:fT B A y k o e w'):fT B w y k o e w':=⟨D.trans h.1,h.2⟩
theorem aLn {y:Int} {st:List (Tr × Int)} {p:Pc} (h:(p.k≠1/\0<p.t.length)\/(p.k≠7/\p.n≠0)):bO y st p=none:=by unfold bO;rw [if_pos h]
theorem aKo {y:Int} {st:List (Tr × Int)} {p:Pc} (h:¬ ((p.k≠1/\0<p.t.length)\/(p.k≠7/\p.n≠0))) (A:p.k=1):bO y st p=fU y st p:=by unfold bO fU;rw [if_neg h,if_pos A]
theorem tW {y:Int} {st:List (Tr × Int)} {p:Pc} (h:¬ ((p.k≠1/\0<p.t.length)\/(p.k≠7/\p.n≠0))) (A:¬ p.k=1) (D:p.k=0\/p.k=2\/p.k=3\/p.k=4\/p.k=5):bO y st p=some (y,(.leaf p,0)::st):=by
 unfold bO;rw [if_neg h,if_neg A,if_pos D]
theorem aFl {A:Int} {st:List (Tr × Int)} {p:Pc} (h:¬ ((p.k≠1/\0<p.t.length)\/(p.k≠7/\p.n≠0))) (D:p.k=6\/p.k=9):bO A st p=kY A st p:=by
 unfold bO kY;rw [if_neg h,if_neg (by omega),if_neg (by omega),if_pos D];rcases st with _ | ⟨⟨y,E⟩,_ | ⟨⟨x,nx⟩,r⟩⟩<;>rfl
theorem aBF {y:Int} {st:List (Tr × Int)} {p:Pc} (h:¬ ((p.k≠1/\0<p.t.length)\/(p.k≠7/\p.n≠0))) (A:p.k=7\/p.k=8):bO y st p=eV y st p:=by
 unfold bO eV;rw [if_neg h,if_neg (by omega),if_neg (by omega),if_neg (by omega),if_pos A];rcases st with _ | ⟨⟨x,nx⟩,r⟩<;>rfl
theorem aI4 {y:Int} {st:List (Tr × Int)} {p:Pc} (h:¬ ((p.k≠1/\0<p.t.length)\/(p.k≠7/\p.n≠0))) (A:p.k<0\/9<p.k):bO y st p=none:=by
 unfold bO;rw [if_neg h,if_neg (by omega),if_neg (by omega),if_neg (by omega),if_neg (by omega)]
theorem aG3 (B:Nat) (w:World) (bb:Nat) (nv rv:Value) (G:List Mk) (A:Int) (p:Pc) (tv:Value) (hS:Bst B w bb nv rv G (bY G) A) (hv:RdB B w tv p.t) (d9:Sl tv p.t.length) (g5:Bys p.t) (hn:p.t.length<=1048576)
  (g3:0<=A) (g2:A<=100000) (hB:B<=w.heap.size) (g1:0<B) (hT:Tab w) (hl:G.length<=1048576) (a8:(bY G).length<=1048576) (f4:∀ x∈G,0<=x.n/\x.n<=4000) :
  Calls prog 79 #[.pointer (some ⟨bb,0,none⟩),.agg #[.int .i64 p.k,tv,.int .i64 p.n]] w fun e w'=>fT B w bb ((bY G).length+1) (bO A (cF G) p) e w':=by
 obtain ⟨ta,g6,a4,h0,h7⟩:=id d9;have hg:w.grownBy (w.alloc (.cells #[.int .i64 p.k,tv,.int .i64 p.n] 95)) none:=gWA;have HS:Hid (Bst B (w.alloc (.cells #[.int .i64 p.k,tv,.int .i64 p.n] 95)) bb nv rv G (bY G) A):=hS.K hg;have N:Hid (Below B w (w.alloc (.cells #[.int .i64 p.k,tv,.int .i64 p.n] 95))):=(Below.refl B w).grown hg hB (fun k e=>by cases e);have HV:Hid (RdB B (w.alloc (.cells #[.int .i64 p.k,tv,.int .i64 p.n] 95)) tv p.t):=hv.K hg;have HT:Hid (Tab (w.alloc (.cells #[.int .i64 p.k,tv,.int .i64 p.n] 95))):=hT.K hg;have g4:Hid (Sl tv p.t.length):=d9;have f5:Hid (∀ x∈G,0<=x.n/\x.n<=4000):=f4;have f7:B<=(w.alloc (.cells #[.int .i64 p.k,tv,.int .i64 p.n] 95)).heap.size:=Nat.le_trans hB hg.size;have a9:=f7;clear hS hv hT d9 hg f4 f7
 by_cases Z:(p.k≠1/\0<p.t.length)\/(p.k≠7/\p.n≠0)
 ·have HF:Hid (bO A (cF G) p=none):=aLn Z;subst a4
  by_cases c0:p.k≠1/\0<p.t.length
  ·obtain ⟨h1,h2⟩:=c0;have e1:(p.k != 1)=true:=(by simpa using h1);clear Z h1
   go_enter func79,ntmps79
   go_wp2;go_ret;exact ⟨N.out,by rw [HF.out];rfl⟩
  ·have g0:p.k≠7/\p.n≠0:=(by rcases Z with h | h;exact absurd h c0;exact h);obtain ⟨h1,h2⟩:=g0;have e7:(p.k != 7)=true:=(by simpa using h1);have e0:(p.n != 0)=true:=by simpa using h2
   by_cases c1:p.k=1
   ·have e1:(p.k != 1)=false:=(by rw [c1];rfl);clear Z h1 h2 c0 c1
    go_enter func79,ntmps79
    go_wp2;go_ret;exact ⟨N.out,by rw [HF.out];rfl⟩
   ·have e1:(p.k != 1)=true:=(by simpa using c1);have S:¬ 0<p.t.length:=fun h=>c0 ⟨c1,h⟩;clear Z h1 h2 c0 c1
    go_enter func79,ntmps79
    go_wp2;go_ret;exact ⟨N.out,by rw [HF.out];rfl⟩
 have O:Hid (¬ ((p.k≠1/\0<p.t.length)\/(p.k≠7/\p.n≠0))):=Z;have D:p.k≠1->¬ 0<p.t.length:=fun h1 h2=>Z (.inl ⟨h1,h2⟩);have M:p.k≠7->p.n=0:=fun h1=>by by_cases h:p.n=0;exact h;exact absurd (.inr ⟨h1,h⟩) Z
 clear Z
 by_cases y:p.k=1
 ·have HF:Hid (bO A (cF G) p=fU A (cF G) p):=aKo O.out y;have hT:=aAM B _ bb nv rv G A p tv HS.out y HV.out g4.out g5 hn g3 g2 a9 g1 HT.out hl a8;have E:p.n=0:=M (by omega);have en:(p.n != 0)=false:=(by rw [E];rfl);have q0:(p.k==0)=false:=(by rw [y];rfl);have q1:(p.k==1)=true:=(by rw [y];rfl);have q2:(p.k==2)=false:=(by rw [y];rfl);have q3:(p.k==3)=false:=(by rw [y];rfl);have q4:(p.k==4)=false:=(by rw [y];rfl);have q5:(p.k==5)=false:=(by rw [y];rfl);have q6:(p.k==6)=false:=(by rw [y];rfl);have q7:(p.k==7)=false:=(by rw [y];rfl);have q8:(p.k==8)=false:=(by rw [y];rfl);have q9:(p.k==9)=false:=(by rw [y];rfl);have e1:(p.k != 1)=false:=(by rw [y];rfl);have e7:(p.k != 7)=true:=(by rw [y];rfl);clear y D M E;subst a4
  go_enter func79,ntmps79
  go_wp2_with fail
  refine hT.mono ?_;intro e w2 h2;have h3:=fT.first N.out h2;rw [<- HF.out] at h3;obtain ⟨b3,Y⟩:=h3;cases J:bO A (cF G) p with
  | none=>
    rw [J] at Y;simp only at Y;subst Y;go_wp2;go_ret;exact ⟨b3,by rw [J];rfl⟩
  | some x=>
    rw [J] at Y;obtain ⟨x1,x2⟩:=x;obtain ⟨h5,h6⟩:=Y;subst h5;go_wp2;go_ret;exact ⟨b3,by rw [J];exact ⟨rfl,h6⟩⟩
 have U:=y
 by_cases y:p.k=0
 ·have HF:Hid (bO A (cF G) p=some (A,(.leaf p,0)::cF G)):=tW O.out U (by omega);have E:p.n=0:=M (by omega);have en:(p.n != 0)=false:=(by rw [E];rfl);have S:=D (by omega);have hT:=jM B _ bb nv rv G (bY G) A ⟨.iface 178 (.agg #[]),.leaf p,0,[.iface 178 (.agg #[])]⟩ HS.out (by simp only [Rep];exact .inl ⟨y,trivial⟩) rfl (fun t b e=>by cases e) a9 hl a8;have q0:(p.k==0)=true:=(by rw [y];rfl);have q1:(p.k==1)=false:=(by rw [y];rfl);have q2:(p.k==2)=false:=(by rw [y];rfl);have q3:(p.k==3)=false:=(by rw [y];rfl);have q4:(p.k==4)=false:=(by rw [y];rfl);have q5:(p.k==5)=false:=(by rw [y];rfl);have q6:(p.k==6)=false:=(by rw [y];rfl);have q7:(p.k==7)=false:=(by rw [y];rfl);have q8:(p.k==8)=false:=(by rw [y];rfl);have q9:(p.k==9)=false:=(by rw [y];rfl);have e1:(p.k != 1)=true:=(by rw [y];rfl);have e7:(p.k != 7)=true:=(by rw [y];rfl);clear y D M E U;subst a4
  go_enter func79,ntmps79
  go_wp2_with fail
  refine hT.mono ?_;rintro e w2 ⟨rfl,b1,b2,b0,X⟩;have b3:=N.out.trans X.bel;clear X;go_wp2;go_ret;refine ⟨b3,?_⟩;rw [HF.out];exact ⟨rfl,b1,b2,G++[⟨.iface 178 (.agg #[]),.leaf p,0,[.iface 178 (.agg #[])]⟩],eJ _ _,by rw [cY,dC];exact b0,by rw [cY,dC];simp⟩
 by_cases y:p.k=2
 ·have HF:Hid (bO A (cF G) p=some (A,(.leaf p,0)::cF G)):=tW O.out U (by omega);have E:p.n=0:=M (by omega);have en:(p.n != 0)=false:=(by rw [E];rfl);have S:=D (by omega);have hT:=jM B _ bb nv rv G (bY G) A ⟨.iface 73 (.agg #[]),.leaf p,0,[.iface 73 (.agg #[])]⟩ HS.out (by simp only [Rep];exact .inr (.inl ⟨y,trivial⟩)) rfl (fun t b e=>by cases e) a9 hl a8;have q0:(p.k==0)=false:=(by rw [y];rfl);have q1:(p.k==1)=false:=(by rw [y];rfl);have q2:(p.k==2)=true:=(by rw [y];rfl);have q3:(p.k==3)=false:=(by rw [y];rfl);have q4:(p.k==4)=false:=(by rw [y];rfl);have q5:(p.k==5)=false:=(by rw [y];rfl);have q6:(p.k==6)=false:=(by rw [y];rfl);have q7:(p.k==7)=false:=(by rw [y];rfl);have q8:(p.k==8)=false:=(by rw [y];rfl);have q9:(p.k==9)=false:=(by rw [y];rfl);have e1:(p.k != 1)=true:=(by rw [y];rfl);have e7:(p.k != 7)=true:=(by rw [y];rfl);clear y D M E U;subst a4
  go_enter func79,ntmps79
  go_wp2_with fail
  refine hT.mono ?_;rintro e w2 ⟨rfl,b1,b2,b0,X⟩;have b3:=N.out.trans X.bel;clear X;go_wp2;go_ret;refine ⟨b3,?_⟩;rw [HF.out];exact ⟨rfl,b1,b2,G++[⟨.iface 73 (.agg #[]),.leaf p,0,[.iface 73 (.agg #[])]⟩],eJ _ _,by rw [cY,dC];exact b0,by rw [cY,dC];simp⟩
 by_cases y:p.k=3
 ·have HF:Hid (bO A (cF G) p=some (A,(.leaf p,0)::cF G)):=tW O.out U (by omega);have E:p.n=0:=M (by omega);have en:(p.n != 0)=false:=(by rw [E];rfl);have S:=D (by omega);have hT:=jM B _ bb nv rv G (bY G) A ⟨.iface 179 (.agg #[]),.leaf p,0,[.iface 179 (.agg #[])]⟩ HS.out (by simp only [Rep];exact .inr (.inr (.inl ⟨y,trivial⟩))) rfl (fun t b e=>by cases e) a9 hl a8;have q0:(p.k==0)=false:=(by rw [y];rfl);have q1:(p.k==1)=false:=(by rw [y];rfl);have q2:(p.k==2)=false:=(by rw [y];rfl);have q3:(p.k==3)=true:=(by rw [y];rfl);have q4:(p.k==4)=false:=(by rw [y];rfl);have q5:(p.k==5)=false:=(by rw [y];rfl);have q6:(p.k==6)=false:=(by rw [y];rfl);have q7:(p.k==7)=false:=(by rw [y];rfl);have q8:(p.k==8)=false:=(by rw [y];rfl);have q9:(p.k==9)=false:=(by rw [y];rfl);have e1:(p.k != 1)=true:=(by rw [y];rfl);have e7:(p.k != 7)=true:=(by rw [y];rfl);clear y D M E U;subst a4
  go_enter func79,ntmps79
  go_wp2_with fail
  refine hT.mono ?_;rintro e w2 ⟨rfl,b1,b2,b0,X⟩;have b3:=N.out.trans X.bel;clear X;go_wp2;go_ret;refine ⟨b3,?_⟩;rw [HF.out];exact ⟨rfl,b1,b2,G++[⟨.iface 179 (.agg #[]),.leaf p,0,[.iface 179 (.agg #[])]⟩],eJ _ _,by rw [cY,dC];exact b0,by rw [cY,dC];simp⟩
 by_cases y:p.k=4
 ·have HF:Hid (bO A (cF G) p=some (A,(.leaf p,0)::cF G)):=tW O.out U (by omega);have E:p.n=0:=M (by omega);have en:(p.n != 0)=false:=(by rw [E];rfl);have S:=D (by omega);have hT:=jM B _ bb nv rv G (bY G) A ⟨.iface 74 (.agg #[]),.leaf p,0,[.iface 74 (.agg #[])]⟩ HS.out (by simp only [Rep];exact .inr (.inr (.inr (.inl ⟨y,trivial⟩)))) rfl (fun t b e=>by cases e) a9 hl a8;have q0:(p.k==0)=false:=(by rw [y];rfl);have q1:(p.k==1)=false:=(by rw [y];rfl);have q2:(p.k==2)=false:=(by rw [y];rfl);have q3:(p.k==3)=false:=(by rw [y];rfl);have q4:(p.k==4)=true:=(by rw [y];rfl);have q5:(p.k==5)=false:=(by rw [y];rfl);have q6:(p.k==6)=false:=(by rw [y];rfl);have q7:(p.k==7)=false:=(by rw [y];rfl);have q8:(p.k==8)=false:=(by rw [y];rfl);have q9:(p.k==9)=false:=(by rw [y];rfl);have e1:(p.k != 1)=true:=(by rw [y];rfl);have e7:(p.k != 7)=true:=(by rw [y];rfl);clear y D M E U;subst a4
  go_enter func79,ntmps79
  go_wp2_with fail
  refine hT.mono ?_;rintro e w2 ⟨rfl,b1,b2,b0,X⟩;have b3:=N.out.trans X.bel;clear X;go_wp2;go_ret;refine ⟨b3,?_⟩;rw [HF.out];exact ⟨rfl,b1,b2,G++[⟨.iface 74 (.agg #[]),.leaf p,0,[.iface 74 (.agg #[])]⟩],eJ _ _,by rw [cY,dC];exact b0,by rw [cY,dC];simp⟩
 by_cases y:p.k=5
 ·have HF:Hid (bO A (cF G) p=some (A,(.leaf p,0)::cF G)):=tW O.out U (by omega);have E:p.n=0:=M (by omega);have en:(p.n != 0)=false:=(by rw [E];rfl);have S:=D (by omega);have hT:=jM B _ bb nv rv G (bY G) A ⟨.iface 75 (.agg #[]),.leaf p,0,[.iface 75 (.agg #[])]⟩ HS.out (by simp only [Rep];exact .inr (.inr (.inr (.inr (.inl ⟨y,trivial⟩))))) rfl (fun t b e=>by cases e) a9 hl a8;have q0:(p.k==0)=false:=(by rw [y];rfl);have q1:(p.k==1)=false:=(by rw [y];rfl);have q2:(p.k==2)=false:=(by rw [y];rfl);have q3:(p.k==3)=false:=(by rw [y];rfl);have q4:(p.k==4)=false:=(by rw [y];rfl);have q5:(p.k==5)=true:=(by rw [y];rfl);have q6:(p.k==6)=false:=(by rw [y];rfl);have q7:(p.k==7)=false:=(by rw [y];rfl);have q8:(p.k==8)=false:=(by rw [y];rfl);have q9:(p.k==9)=false:=(by rw [y];rfl);have e1:(p.k != 1)=true:=(by rw [y];rfl);have e7:(p.k != 7)=true:=(by rw [y];rfl);clear y D M E U;subst a4
  go_enter func79,ntmps79
  go_wp2_with fail
  refine hT.mono ?_;rintro e w2 ⟨rfl,b1,b2,b0,X⟩;have b3:=N.out.trans X.bel;clear X;go_wp2;go_ret;refine ⟨b3,?_⟩;rw [HF.out];exact ⟨rfl,b1,b2,G++[⟨.iface 75 (.agg #[]),.leaf p,0,[.iface 75 (.agg #[])]⟩],eJ _ _,by rw [cY,dC];exact b0,by rw [cY,dC];simp⟩
 by_cases y:p.k=6
 ·have HF:Hid (bO A (cF G) p=kY A (cF G) p):=aFl O.out (by omega);have S:=D (by omega);have hT:=uU B _ bb nv rv G A p HS.out (by omega) a9 hl a8;have E:p.n=0:=M (by omega);have en:(p.n != 0)=false:=(by rw [E];rfl);clear E;have q0:(p.k==0)=false:=(by rw [y];rfl);have q1:(p.k==1)=false:=(by rw [y];rfl);have q2:(p.k==2)=false:=(by rw [y];rfl);have q3:(p.k==3)=false:=(by rw [y];rfl);have q4:(p.k==4)=false:=(by rw [y];rfl);have q5:(p.k==5)=false:=(by rw [y];rfl);have q6:(p.k==6)=true:=(by rw [y];rfl);have q7:(p.k==7)=false:=(by rw [y];rfl);have q8:(p.k==8)=false:=(by rw [y];rfl);have q9:(p.k==9)=false:=(by rw [y];rfl);have e1:(p.k != 1)=true:=(by rw [y];rfl);have e7:(p.k != 7)=true:=(by rw [y];rfl);clear y D M U;subst a4
  go_enter func79,ntmps79
  go_wp2_with fail
  refine hT.mono ?_;intro e w2 h2;have h3:=fT.first N.out h2;rw [<- HF.out] at h3;obtain ⟨b3,Y⟩:=h3;cases J:bO A (cF G) p with
  | none=>
    rw [J] at Y;simp only at Y;subst Y;go_wp2;go_ret;exact ⟨b3,by rw [J];rfl⟩
  | some x=>
    rw [J] at Y;obtain ⟨x1,x2⟩:=x;obtain ⟨h5,h6⟩:=Y;subst h5;go_wp2;go_ret;exact ⟨b3,by rw [J];exact ⟨rfl,h6⟩⟩
 by_cases y:p.k=9
 ·have HF:Hid (bO A (cF G) p=kY A (cF G) p):=aFl O.out (by omega);have S:=D (by omega);have hT:=uU B _ bb nv rv G A p HS.out (by omega) a9 hl a8;have E:p.n=0:=M (by omega);have en:(p.n != 0)=false:=(by rw [E];rfl);clear E;have q0:(p.k==0)=false:=(by rw [y];rfl);have q1:(p.k==1)=false:=(by rw [y];rfl);have q2:(p.k==2)=false:=(by rw [y];rfl);have q3:(p.k==3)=false:=(by rw [y];rfl);have q4:(p.k==4)=false:=(by rw [y];rfl);have q5:(p.k==5)=false:=(by rw [y];rfl);have q6:(p.k==6)=false:=(by rw [y];rfl);have q7:(p.k==7)=false:=(by rw [y];rfl);have q8:(p.k==8)=false:=(by rw [y];rfl);have q9:(p.k==9)=true:=(by rw [y];rfl);have e1:(p.k != 1)=true:=(by rw [y];rfl);have e7:(p.k != 7)=true:=(by rw [y];rfl);clear y D M U;subst a4
  go_enter func79,ntmps79
  go_wp2_with fail
  refine hT.mono ?_;intro e w2 h2;have h3:=fT.first N.out h2;rw [<- HF.out] at h3;obtain ⟨b3,Y⟩:=h3;cases J:bO A (cF G) p with
  | none=>
    rw [J] at Y;simp only at Y;subst Y;go_wp2;go_ret;exact ⟨b3,by rw [J];rfl⟩
  | some x=>
    rw [J] at Y;obtain ⟨x1,x2⟩:=x;obtain ⟨h5,h6⟩:=Y;subst h5;go_wp2;go_ret;exact ⟨b3,by rw [J];exact ⟨rfl,h6⟩⟩
 by_cases y:p.k=7
 ·have HF:Hid (bO A (cF G) p=eV A (cF G) p):=aBF O.out (by omega);have S:=D (by omega);have hT:=qC B _ bb nv rv G A p HS.out (.inr y) a9 hl a8 f5.out;have q0:(p.k==0)=false:=(by rw [y];rfl);have q1:(p.k==1)=false:=(by rw [y];rfl);have q2:(p.k==2)=false:=(by rw [y];rfl);have q3:(p.k==3)=false:=(by rw [y];rfl);have q4:(p.k==4)=false:=(by rw [y];rfl);have q5:(p.k==5)=false:=(by rw [y];rfl);have q6:(p.k==6)=false:=(by rw [y];rfl);have q7:(p.k==7)=true:=(by rw [y];rfl);have q8:(p.k==8)=false:=(by rw [y];rfl);have q9:(p.k==9)=false:=(by rw [y];rfl);have e1:(p.k != 1)=true:=(by rw [y];rfl);have e7:(p.k != 7)=false:=(by rw [y];rfl);clear y D M U;subst a4
  go_enter func79,ntmps79
  go_wp2_with fail
  refine hT.mono ?_;intro e w2 h2;have h3:=fT.first N.out h2;rw [<- HF.out] at h3;obtain ⟨b3,Y⟩:=h3;cases J:bO A (cF G) p with
  | none=>
    rw [J] at Y;simp only at Y;subst Y;go_wp2;go_ret;exact ⟨b3,by rw [J];rfl⟩
  | some x=>
    rw [J] at Y;obtain ⟨x1,x2⟩:=x;obtain ⟨h5,h6⟩:=Y;subst h5;go_wp2;go_ret;exact ⟨b3,by rw [J];exact ⟨rfl,h6⟩⟩
 by_cases y:p.k=8
 ·have HF:Hid (bO A (cF G) p=eV A (cF G) p):=aBF O.out (by omega);have S:=D (by omega);have hT:=qC B _ bb nv rv G A p HS.out (.inl ⟨y,M (by omega)⟩) a9 hl a8 f5.out;have E:p.n=0:=M (by omega);have en:(p.n != 0)=false:=(by rw [E];rfl);clear E;have q0:(p.k==0)=false:=(by rw [y];rfl);have q1:(p.k==1)=false:=(by rw [y];rfl);have q2:(p.k==2)=false:=(by rw [y];rfl);have q3:(p.k==3)=false:=(by rw [y];rfl);have q4:(p.k==4)=false:=(by rw [y];rfl);have q5:(p.k==5)=false:=(by rw [y];rfl);have q6:(p.k==6)=false:=(by rw [y];rfl);have q7:(p.k==7)=false:=(by rw [y];rfl);have q8:(p.k==8)=true:=(by rw [y];rfl);have q9:(p.k==9)=false:=(by rw [y];rfl);have e1:(p.k != 1)=true:=(by rw [y];rfl);have e7:(p.k != 7)=true:=(by rw [y];rfl);clear y D M U;subst a4
  go_enter func79,ntmps79
  go_wp2_with fail
  refine hT.mono ?_;intro e w2 h2;have h3:=fT.first N.out h2;rw [<- HF.out] at h3;obtain ⟨b3,Y⟩:=h3;cases J:bO A (cF G) p with
  | none=>
    rw [J] at Y;simp only at Y;subst Y;go_wp2;go_ret;exact ⟨b3,by rw [J];rfl⟩
  | some x=>
    rw [J] at Y;obtain ⟨x1,x2⟩:=x;obtain ⟨h5,h6⟩:=Y;subst h5;go_wp2;go_ret;exact ⟨b3,by rw [J];exact ⟨rfl,h6⟩⟩
 have f6:p.k<0\/9<p.k:=(by omega);have HF:Hid (bO A (cF G) p=none):=aI4 O.out f6;have E:p.n=0:=M (by omega);have en:(p.n != 0)=false:=(by rw [E];rfl);have S:=D (by omega);have q0:(p.k==0)=false:=(by simp;omega);have q1:(p.k==1)=false:=(by simp;omega);have q2:(p.k==2)=false:=(by simp;omega);have q3:(p.k==3)=false:=(by simp;omega);have q4:(p.k==4)=false:=(by simp;omega);have q5:(p.k==5)=false:=(by simp;omega);have q6:(p.k==6)=false:=(by simp;omega);have q7:(p.k==7)=false:=(by simp;omega);have q8:(p.k==8)=false:=(by simp;omega);have q9:(p.k==9)=false:=(by simp;omega);have e1:(p.k != 1)=true:=(by simp;omega);have e7:(p.k != 7)=true:=(by simp;omega);clear f6 D M E U;subst a4
 go_enter func79,ntmps79
 go_wp2;go_ret;exact ⟨N.out,by rw [HF.out];rfl⟩
theorem aKg (doc:List Pc) (k:Nat) (A:k<doc.length) (y:Int) (st:List (Tr × Int)) (r:Int) (s:List (Tr × Int)) (h:bO y st doc[k]=some (r,s)):jD (doc.drop k) y st=jD (doc.drop (k+1)) r s:=by
 rw [List.drop_eq_getElem_cons A];simp only [jD,h,Option.bind_some]
theorem aHm (doc:List Pc) (k:Nat) (A:k<doc.length) (y:Int) (st:List (Tr × Int)) (h:bO y st doc[k]=none):jD (doc.drop k) y st=none:=by
 rw [List.drop_eq_getElem_cons A];simp only [jD,h,Option.bind_none]
theorem aJY {y:List Mk} (h:aDf (cF y)):∀ x∈y,0<=x.n/\x.n<=4000:=by
 intro x A;have:=h (x.T,x.n) (by simp only [cF,List.mem_reverse,List.mem_map];exact ⟨x,A,rfl⟩);exact ⟨this.2.1,this.2.2⟩
theorem aEH {y r:Int} {st s:List (Tr × Int)} {p:Pc} (h:bO y st p=some (r,s)):s.length<=st.length+1:=by
 unfold bO at h
 split at h
 ·cases h
 ·split at h
  ·split at h
   ·cases h
   ·split at h
    ·cases h
    ·cases h;simp
  ·split at h
   ·cases h;simp
   ·split at h
    ·split at h
     ·cases h;simp
     ·cases h
    ·split at h
     ·split at h
      ·split at h
       ·cases h
       ·cases h;simp
      ·cases h
     ·cases h
theorem aJH {w:World} (y:Int) (t:TypeId):Bst w.heap.size (w.alloc (.cells #[.slice none 0 0,.slice none 0 0,.int .i64 y] t)) w.heap.size (.slice none 0 0) (.slice none 0 0) [] (bY []) y:=
 ⟨Nat.le_refl _,by simp [go_sem],by simp [go_sem],by simp [go_sem],by simp [go_sem],by simp [go_sem],by simp [go_sem],World.ownsRow_nil _ _ _ _,World.ownsRow_nil _ _ _ _,by simp [Value.ownBlock],by simp [Value.ownBlock],fun g h=>by simp [Value.ownBlock] at h,⟨by simp [bY],fun t b h=>by simp [bY] at h⟩,(fun x A=>by cases A),(fun x A=>by cases A)⟩
def aBv (doc:List Pc) (w:World) (e:Ending) (w':World):Prop:=
 Below w.heap.size w w'/\((doc.length<=40000/\∃ T n u nv l,jD doc 100000 []=some [(T,n)]/\e=.returned nv/\l.length=doc.length/\w'.ownsRow w.heap.size 62 1 nv l.length l/\Rep (fun _=>False) w.heap.size w' u T/\cS w' u T l/\lF (fun _=>False) w' l)\/
  (e=.returned (.slice none 0 0)/\(40000<doc.length\/jD doc 100000 []=none\/∃ s,jD doc 100000 []=some s/\s.length≠1)))
theorem wV (v:Value) (doc:List Pc) (w:World) (hv:RdP w.heap.size w v doc) (hd:Doc doc) (hT:Tab w) :
  Calls prog 44 #[v] w fun e w'=>aBv doc w e w':=by
 obtain ⟨a,cap,b9,g2,g1,_⟩:=id hv;have hl:=hd.len;have a5:=hT.pos
 by_cases h4:doc.length > 40000
 ·have HF:Hid (40000<doc.length):=h4;subst b9;clear hv hT
  go_enter func44,ntmps44
  go_wp2;go_ret;exact ⟨Below.refl _ _,.inr ⟨rfl,.inl HF.out⟩⟩
 subst b9;have HV:Hid (RdP w.heap.size w (.slice a doc.length cap) doc):=hv;have HT:Hid (Tab w):=hT;have HB:Hid (Bst w.heap.size (w.alloc (.cells #[.slice none 0 0,.slice none 0 0,.int .i64 100000] 145)) w.heap.size (.slice none 0 0) (.slice none 0 0) [] (bY []) 100000):=aJH _ _;clear hv hT
 go_enter func44,ntmps44
 go_wp2
 go_loopw [12] (fun i wr=>∃ (k:Nat) (nv rv:Value) (G:List Mk) (y:Int),k<=doc.length/\i=.int .i64 k/\Bst w.heap.size wr w.heap.size nv rv G (bY G) y/\Hid ((bY G).length=k)/\Hid (jD (doc.drop k) y (cF G)=jD doc 100000 [])/\0<=y/\y<=100000/\aDf (cF G)/\G.length<=k/\Below w.heap.size w wr)
  (fun i _=>doc.length - (intOf i).toNat)
 case atStart=>exact ⟨0,_,_,[],100000,Nat.zero_le _,rfl,HB.out,rfl,rfl,by omega,by omega,(fun x hx=>by cases hx),Nat.le_refl _,(Below.refl _ _).alloc (Nat.le_refl _) _⟩
 case round=>
  obtain ⟨k,nv,rv,G,y,hk,rfl,N,HL,HG,b7,d7,A,h7,M⟩:=hrel;have d4:=M.size
  by_cases a4:k<doc.length
  ·obtain ⟨b,off,g4,tv,f8,hb,hp⟩:=(HV.out.beside (aC M) (fun _ e=>by cases e)).at k a4;cases f8;have i5:=hp.k;have i7:=hp.t;have i3:=hp.n;have S:=List.getElem_mem a4;have Z:wr.grownBy (wr.alloc (.cells #[.int .i64 doc[k].k,tv,.int .i64 doc[k].n] 95)) none:=gWA;have D:=aG3 w.heap.size _ w.heap.size nv rv G y doc[k] tv (N.K Z) (hp.rd.K Z) hp.sl (hd.bys _ S) (hd.tlen _ S) b7 d7 (by simp;omega) a5 ((HT.out.below M a5).K Z) (by omega) (by rw [HL.out];omega) (aJY A);rw [HL.out] at D;have b0:=aBh y (cF G) doc[k] b7 A;have b2:=aKg doc k a4 y (cF G);have O:=aHm doc k a4 y (cF G);have c4:Hid (Below w.heap.size w (wr.alloc (.cells #[.int .i64 doc[k].k,tv,.int .i64 doc[k].n] 95))):=M.alloc d4 _;obtain ⟨ta,f9,f5,_,_⟩:=hp.sl;subst f5;clear hp S Z A HV HT HB N M HL;generalize doc[k]=p at *;cases E:bO y (cF G) p with
   | none=>
     have HF:Hid (jD doc 100000 []=none):=(by unfold Hid;rw [<- HG.out];exact O E);rw [E] at D;clear b0 b2 O E HG
     go_wp2_with fail
     refine D.mono ?_;rintro e w1 ⟨b1,J⟩;simp only at J;subst J;go_wp2;go_ret;exact ⟨c4.out.trans b1,.inr ⟨rfl,.inr (.inl HF.out)⟩⟩
   | some x=>
     obtain ⟨r,s⟩:=x;have d1:Hid (jD (doc.drop (k+1)) r s=jD doc 100000 []):=by unfold Hid;rw [<- HG.out];exact (b2 r s E).symm
     have Y:0<=r/\r<=100000/\aDf s:=by
      rcases b0 with ⟨s',J,h2,h3,h4,h5⟩ | ⟨J,_⟩
      ·rw [E] at J;cases J;exact ⟨by omega,by omega,h5⟩
      ·rw [E] at J;cases J
     obtain ⟨f1,f2,f3⟩:=Y;have d5:=aEH E;rw [qS] at d5;have f4:Hid (aDf s):=f3;rw [E] at D;clear b0 b2 O E HG f3
     go_wp2_with fail
     refine D.mono ?_;rintro e w1 ⟨b1,J,d3,d9,U,h2,h3,h4⟩;subst J;have b8:U.length<=k+1:=(by rw [<- qS,h2];omega);have H2:Hid (cF U=s):=h2;have H4:Hid ((bY U).length=k+1):=h4;clear h2 h4;go_wp2
     go_roundw
     case rel=>exact ⟨k+1,d3,d9,U,r,by omega,by go_num,h3,H4,by unfold Hid;rw [H2.out];exact d1.out,f1,f2,by rw [H2.out];exact f4.out,b8,c4.out.trans b1⟩
     case measure=>simp [intOf];omega
  ·have c2:k=doc.length:=(by omega);have HF:Hid (jD doc 100000 []=some (cF G)):=(by unfold Hid;rw [<- HG.out,c2];simp [jD]);have c0:=N.c0;have c1:=N.c1;obtain ⟨ra,g6,a9,i1,d2⟩:=aU N.row;obtain ⟨na,g5,b6,h8,d6⟩:=aU N.nrow;unfold maxLen at d2 d6
   by_cases J:G.length=1
   ·obtain ⟨X,hX⟩:∃ X,G=[X]:=List.length_eq_one_iff.1 J;subst hX;have a7:=N.rep X (by simp);have HR:Hid (Rep (fun _=>False) w.heap.size wr X.v X.T):=a7.turn (Nat.le_refl _) (fun _ _ _=>rfl) (fun _ _ h=>h.elim) (fun _ _ h=>h);have HP:Hid (cS wr X.v X.T (bY [X])):=(by unfold Hid;rw [dC];exact N.post X (by simp));have HO:Hid (lF (fun _=>False) wr (bY [X])):=N.once.turn (fun _ _ _=>rfl) (fun _ _ h=>h.elim);have HN:Hid (wr.ownsRow w.heap.size 62 1 nv (bY [X]).length (bY [X])):=N.nrow;have b4:Hid (jD doc 100000 []=some [(X.T,X.n)]):=(by unfold Hid;rw [HF.out];rfl);have f7:Hid ((bY [X]).length=doc.length):=(by unfold Hid;rw [HL.out,c2]);simp only [List.length_cons,List.length_nil,Nat.zero_add] at a9;generalize c9:bY [X]=LL at *;subst a9;subst b6;clear N a7 HV HT HB HF HG A J HL c9;go_wp2;go_ret;exact ⟨M,.inl ⟨by omega,X.T,X.n,X.v,_,LL,b4.out,rfl,f7.out,HN.out,HR.out,HP.out,HO.out⟩⟩
   ·have e1:((G.length:Int) != 1)=true:=(by simp;omega);have b4:Hid (∃ s,jD doc 100000 []=some s/\s.length≠1):=⟨_,HF.out,by rw [qS];exact J⟩;subst a9;clear N HV HT HB HF HG A J HL b6;go_wp2;go_ret;exact ⟨M,.inr ⟨rfl,.inr (.inr b4.out)⟩⟩
theorem cS.last {w:World} : ∀ {T:Tr} {v:Value} {l:List Value},cS w v T l->∃ A,l=A++[v]
 | .leaf _,v,l,h=>⟨[],by simpa [cS] using h⟩
 | .un _ _,v,l,h=>by
   simp only [cS] at h;obtain ⟨_,_,_,y,_,_,_,_,h⟩:=h;exact ⟨y,h⟩
 | .bin _ _ _,v,l,h=>by
   simp only [cS] at h;obtain ⟨_,_,_,_,y,D,_,_,_,_,_,h⟩:=h;exact ⟨y++D,h⟩
def aDH (doc:List Pc) (w:World) (e:Ending) (w':World):Prop:=
 Below w.heap.size w w'/\((doc.length<=40000/\∃ T n u,jD doc 100000 []=some [(T,n)]/\e=.returned u/\Rep (fun _=>False) w.heap.size w' u T)\/
  (e=.returned .nilIface/\(40000<doc.length\/jD doc 100000 []=none\/∃ s,jD doc 100000 []=some s/\s.length≠1)))
theorem aEZ (v:Value) (doc:List Pc) (w:World) (hv:RdP w.heap.size w v doc) (hd:Doc doc) (hT:Tab w) :
  Calls prog 25 #[v] w fun e w'=>aDH doc w e w':=by
 have h:=wV v doc w hv hd hT;obtain ⟨a,cap,U,_⟩:=id hv;subst U;clear hv hT
 go_enter func25,ntmps25
 go_wp2_with fail
 refine h.mono ?_;rintro e w1 ⟨E,⟨a5,T,n,u,nv,l,hi,rfl,N,y,Z,G,_⟩ | ⟨rfl,h⟩⟩
 ·obtain ⟨J,Y⟩:=G.last;obtain ⟨t,x,A⟩:=Z.form;subst Y;rcases y.2 with ⟨_,h0⟩ | ⟨g,cp,b4,M,b0,hg,X,S,O,a4⟩
  ·simp at h0
  ·subst M;have m0:=World.ownsRow.cellAt y J.length (by simp);rw [List.getElem?_append_right (Nat.le_refl _)] at m0;simp only [Nat.sub_self,List.getElem?_cons_zero,A] at m0;have D:(J++[u]).length=J.length+1:=(by simp);unfold maxLen at S;rw [D] at X ⊢;have HI:Hid (jD doc 100000 []=some [(T,n)]):=hi;have HR:Hid (Rep (fun _=>False) w.heap.size w1 (.iface t x) T):=(by unfold Hid;rw [<- A];exact Z);have e0:((J.length:Int)+1==0)=false:=(by simp;omega);clear hi Z y hg O a4 G D N A h;go_wp2;go_ret;exact ⟨E,.inl ⟨a5,T,n,_,HI.out,rfl,HR.out⟩⟩
 ·have HN:Hid (40000<doc.length\/jD doc 100000 []=none\/∃ s,jD doc 100000 []=some s/\s.length≠1):=h;clear h;go_wp2;go_ret;exact ⟨E,.inr ⟨rfl,HN.out⟩⟩
theorem aCx {doc:List Pc} {w:World} {e:Ending} {w':World} (h:aBv doc w e w') :
  Below w.heap.size w w'/\((eX doc=true/\doc.length<=40000/\∃ T u nv l,bd doc []=some [T]/\Seg doc (gZ doc) T 0 doc.length/\e=.returned nv/\l.length=doc.length/\w'.ownsRow w.heap.size 62 1 nv l.length l/\Rep (fun _=>False) w.heap.size w' u T/\cS w' u T l/\lF (fun _=>False) w' l)\/(eX doc=false/\e=.returned (.slice none 0 0))):=by
 refine ⟨h.1,?_⟩;rcases aCO doc with ⟨D,J,T,n,S,E,O⟩ | ⟨D,J⟩
 ·rcases h.2 with ⟨A,M,U,u,nv,l,y,G⟩ | ⟨A,y⟩
  ·rw [E] at y;cases y;exact .inl ⟨D,A,T,u,nv,l,S,O,G⟩
  ·rw [E] at y;rcases y with k | k | ⟨s,k,k'⟩
   ·omega
   ·cases k
   ·cases k;simp at k'
 ·rcases h.2 with ⟨A,M,U,u,nv,l,y,G⟩ | ⟨A,y⟩
  ·rcases J with h | h | ⟨s,h,N⟩
   ·omega
   ·rw [y] at h;cases h
   ·rw [y] at h;cases h;simp at N
  ·exact .inr ⟨D,A⟩
theorem aD5 {doc:List Pc} {w:World} {e:Ending} {w':World} (h:aDH doc w e w') :
  Below w.heap.size w w'/\((eX doc=true/\∃ T u,bd doc []=some [T]/\Seg doc (gZ doc) T 0 doc.length/\e=.returned u/\Rep (fun _=>False) w.heap.size w' u T)\/(eX doc=false/\e=.returned .nilIface)):=by
 refine ⟨h.1,?_⟩;rcases aCO doc with ⟨D,J,T,n,U,E,S⟩ | ⟨D,J⟩
 ·rcases h.2 with ⟨A,N,X,u,y,G,M⟩ | ⟨A,y⟩
  ·rw [E] at y;cases y;exact .inl ⟨D,T,u,U,S,G,M⟩
  ·rw [E] at y;rcases y with k | k | ⟨s,k,k'⟩
   ·omega
   ·cases k
   ·cases k;simp at k'
 ·rcases h.2 with ⟨A,N,X,u,y,G,M⟩ | ⟨A,y⟩
  ·rcases J with h | h | ⟨s,h,O⟩
   ·omega
   ·rw [y] at h;cases h
   ·rw [y] at h;cases h;simp at O
  ·exact .inr ⟨D,A⟩
end Go.Proofs.YtmfehflibkokbaaGreatDoor
