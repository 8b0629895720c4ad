import Derived.Test.YtmfehflibkokbaaGreatDoorMBE
set_option maxHeartbeats 16000000
set_option maxRecDepth 100000
namespace Go.Proofs.YtmfehflibkokbaaGreatDoor
open Go.Proofs.Tryz
open Go.RowKit
theorem iD (k:Int) (w:World):Calls prog 89 #[.int .i64 k] w fun e w'=>e=.returned (.bool (decide (k=5\/k=6)))/\w=w':=by
 by_cases y:k=5
 ·subst y
  go_enter func89,ntmps89
  go_wp2;go_ret;exact ⟨rfl,rfl⟩
 ·have E:(k==5)=false:=by simpa using y
  by_cases h:k=6
  ·subst h
   go_enter func89,ntmps89
   go_wp2;go_ret;exact ⟨rfl,rfl⟩
  ·have D:(k==6)=false:=(by simpa using h);have A:Hid (decide (k=5\/k=6)=false):=(by unfold Hid;simp [y,h]);rw [A.out]
   go_enter func89,ntmps89
   go_wp2;go_ret;exact ⟨by first | rfl | simp [h],rfl⟩
def yT (p:Nod):Bool:=
 decide (0<=p.k/\p.k<=6)&&((p.mem||decide (p.key=[]))&&((decide (p.k=3)||decide (p.X=[]))&&((decide (p.k=4)||decide (p.U=[]))&&(if 5<=p.k then decide (0<=p.C) else (decide (p.C=0)&&decide (p.tail=[]))))))
theorem aAw (p:Nod):yT p=true ↔ zB p:=by
 unfold yT zB;simp only [Bool.and_eq_true,Bool.or_eq_true,decide_eq_true_eq];constructor
 ·rintro ⟨D,E,A,y,h⟩;refine ⟨D,E,fun e=>A.resolve_left e,fun e=>y.resolve_left e,fun e=>?_,fun e=>?_⟩
  ·rw [if_pos e] at h;exact of_decide_eq_true h
  ·rw [if_neg (by omega)] at h;rw [Bool.and_eq_true,decide_eq_true_eq,decide_eq_true_eq] at h;exact h
 ·rintro ⟨D,E,A,y,h,G⟩;refine ⟨D,E,?_,?_,?_⟩
  ·by_cases e:p.k=3
   ·exact .inl e
   ·exact .inr (A e)
  ·by_cases e:p.k=4
   ·exact .inl e
   ·exact .inr (y e)
  ·by_cases e:5<=p.k
   ·rw [if_pos e];exact decide_eq_true (h e)
   ·rw [if_neg e,Bool.and_eq_true,decide_eq_true_eq,decide_eq_true_eq];exact G (by omega)
theorem xP {α:Type} (l:List α):l=[] ↔ (l.length:Int)=0:=by
 constructor
 ·rintro rfl;rfl
 ·intro h;exact List.eq_nil_of_length_eq_zero (by omega)
theorem aCW (p:Nod):yT p=true ↔ ((0<=p.k/\p.k<=6)/\(p.mem=true\/(p.key.length:Int)=0)/\(p.k≠3->(p.X.length:Int)=0)/\(p.k≠4->(p.U.length:Int)=0)/\(5<=p.k->0<=p.C)/\(p.k<5->p.C=0/\(p.tail.length:Int)=0)):=by
 rw [aAw];unfold zB;rw [xP p.key,xP p.X,xP p.U,xP p.tail]
theorem aCu (p:Nod) (Z ka N S O:Option Addr) (G D y E A:Nat) (w:World) (l1:p.key.length<=1048576) (l2:p.U.length<=1048576) (l3:p.X.length<=1048576) (l4:p.tail.length<=1048576) :
  Calls prog 121 #[.agg #[.int .i64 p.k,.slice Z p.L.length G,.bool p.mem,.slice ka p.key.length D,.slice N p.X.length y,.slice S p.U.length E,.int .i64 p.C,.slice O p.tail.length A]] w fun e w'=>e=.returned (.bool (yT p))/\w.grownBy w' none:=by
 have M:=aB (fun (k:Int) (w:World)=>iD k w);cases J:p.mem with
 | true=>
   have h:=aB (aCW p);rw [J] at h;clear J
   go_enter func121,ntmps121
   go_wp2_with (go_at_call 89;refine (M.out _ _).mono ?_;rintro e Y ⟨rfl,rfl⟩)
   all_goals go_ret
   all_goals refine ⟨?_,gWA⟩
   all_goals refine congrArg (fun b=>Ending.returned (Value.bool b)) (?_:_=yT p)
   all_goals rw [Bool.eq_iff_iff,h.out]
   all_goals clear h M
   all_goals generalize p.key.length=n1 at *
   all_goals generalize p.X.length=n2 at *
   all_goals generalize p.U.length=n3 at *
   all_goals generalize p.tail.length=n4 at *
   all_goals generalize p.k=kk at *
   all_goals generalize p.C=cc at *
   all_goals try simp
   all_goals try simp only [bne_eq_false_iff_eq] at *
   all_goals omega
 | false=>
   have h:=aB (aCW p);rw [J] at h;clear J
   go_enter func121,ntmps121
   go_wp2_with (go_at_call 89;refine (M.out _ _).mono ?_;rintro e Y ⟨rfl,rfl⟩)
   all_goals go_ret
   all_goals refine ⟨?_,gWA⟩
   all_goals refine congrArg (fun b=>Ending.returned (Value.bool b)) (?_:_=yT p)
   all_goals rw [Bool.eq_iff_iff,h.out]
   all_goals clear h M
   all_goals generalize p.key.length=n1 at *
   all_goals generalize p.X.length=n2 at *
   all_goals generalize p.U.length=n3 at *
   all_goals generalize p.tail.length=n4 at *
   all_goals generalize p.k=kk at *
   all_goals generalize p.C=cc at *
   all_goals try simp
   all_goals try simp only [bne_eq_false_iff_eq] at *
   all_goals omega
theorem N8.row {W E:World} {b h:Nat} {p:Nod} {lv D G A tv:Value} (n:N8 W b p lv D G A tv) (g:W.grownBy E (some h)) (J:b≠h):N8 E b p lv D G A tv:=
 have y:some b≠some h:=fun e=>J (by cases e;rfl)
 ⟨g.cell n.c0 y,g.cell n.c1 y,g.cell n.c2 y,g.cell n.c3 y,g.cell n.c4 y,g.cell n.c5 y,g.cell n.c6 y,g.cell n.c7 y⟩
structure aJF (w0 W:World) (B h b:Nat) (m:Int) (p:Nod) (lv kv xv uv tv:Value):Prop where
 x:Cx W B m
 l:RdC B W lv p.L
 k:RdI B W kv p.key
 t:RdB B W xv p.X
 u:RdI B W uv p.U
 e:RdC B W tv p.tail
 n:N8 W b p lv kv xv uv tv
 g:w0.grownBy W (some h)
theorem aJF.row {w0 W E:World} {B h b:Nat} {m:Int} {p:Nod} {lv D J A tv:Value} (s:aJF w0 W B h b m p lv D J A tv) (g:W.grownBy E (some h)) (G:B<=h) (M:b≠h):aJF w0 E B h b m p lv D J A tv:=
 have y:∀ k,some h=some k->B<=k:=fun k e=>by cases e;exact G
 ⟨s.x.below (kQ g G s.x.s) g.size,s.l.beside g y,s.k.beside g y,s.t.beside g y,s.u.beside g y,s.e.beside g y,s.n.row g M,aQ s.g g⟩
open Classical in
theorem aJn {p:Nod} {c r:Int} (h:¬ zB p):dQ bE dE p (c,r)=none:=by unfold dQ;rw [if_pos h]
open Classical in
theorem aJE {p:Nod} {c r:Int} (h:zB p) (D:¬ ((p.key.length:Int)<=r/\p.key.all bZ=true)):dQ bE dE p (c,r)=none:=by
 unfold dQ;rw [if_neg (fun A=>A h),if_pos]
 by_cases y:(p.key.length:Int)<=r
 ·right;exact Bool.eq_false_iff.2 (fun e=>D ⟨y,e⟩)
 ·left;show r - (p.key.length:Int)<0;omega
open Classical in
theorem aGp {p:Nod} {c r:Int} (h:zB p) (E:(p.key.length:Int)<=r/\p.key.all bZ=true) (A:¬ ((p.U.length:Int)<=r - p.key.length/\p.U.all bZ=true)):dQ bE dE p (c,r)=none:=by
 unfold dQ;rw [if_neg (fun D=>D h),if_neg,if_pos]
 ·by_cases y:(p.U.length:Int)<=r - p.key.length
  ·right;exact Bool.eq_false_iff.2 (fun e=>A ⟨y,e⟩)
  ·left;show r - (p.key.length:Int) - p.U.length<0;omega
 ·rintro (y | y)
  ·have:r - (p.key.length:Int)<0:=y;omega
  ·rw [E.2] at y;cases y
open Classical in
theorem aI3 {p:Nod} {c r:Int} (h:zB p) (D:(p.key.length:Int)<=r/\p.key.all bZ=true) (y:(p.U.length:Int)<=r - p.key.length/\p.U.all bZ=true) :
  dQ bE dE p (c,r)=if r - p.key.length - p.U.length - p.X.length<0 then none else if p.k=3/\dE p.X=false then none else (lU bE p.L (c,r - p.key.length - p.U.length - p.X.length)).bind fun s'=>lU bE p.tail s':=by
 unfold dQ;rw [if_neg (fun A=>A h),if_neg,if_neg]
 ·rintro (h1 | h1)
  ·have:r - (p.key.length:Int) - p.U.length<0:=h1;omega
  ·rw [y.2] at h1;cases h1
 ·rintro (h1 | h1)
  ·have:r - (p.key.length:Int)<0:=h1;omega
  ·rw [D.2] at h1;cases h1
theorem vD (h:Nat) (v:Value) (p:Nod) (lv kv xv uv tv:Value) (c r m:Int) (B:Nat) (w:World) (hk:Ck w h v c r) (hx:Cx w B m) (Z:B<=h) (rl:RdC B w lv p.L) (rk:RdI B w kv p.key) (sk:Sl kv p.key.length) (rx:RdB B w xv p.X) (sx:Sl xv p.X.length) (ru:RdI B w uv p.U) (su:Sl uv p.U.length) (rt:RdC B w tv p.tail) (ho:xJ p) (hr:0<=r/\r<=1048576) (hc : -1048576<=c/\c<=1048576) :
  Calls prog 88 #[.pointer (some ⟨h,0,none⟩),.agg #[.int .i64 p.k,lv,.bool p.mem,kv,xv,uv,.int .i64 p.C,tv]] w fun e w'=>∃ (b:Bool) (c' r':Int),e=.returned (.bool b)/\Ck w' h v c' r'/\dQ bE dE p (c,r)=(if b then some (c',r') else none)/\w.grownBy w' (some h):=by
 have o0:=hk.lt;obtain ⟨la,D,i1,_,_⟩:=rl.sl;obtain ⟨ta,A,k4,_,_⟩:=rt.sl;obtain ⟨ka,O,i3,k1,k2⟩:=id sk;obtain ⟨xa,E,i9,x1,x2⟩:=id sx;obtain ⟨ua,M,j7,u1,u2⟩:=id su;have l1:=ho.k;have l2:=ho.u;have l3:=ho.x.1;have l4:=ho.t.1;have SX:=aB sx;have HO:=aB ho;subst i1 k4 i3 i9 j7;have gA:=World.grownBy_alloc w (Obj.cells #[.int .i64 p.k,.slice la p.L.length D,.bool p.mem,.slice ka p.key.length O,.slice xa p.X.length E,.slice ua p.U.length M,.int .i64 p.C,.slice ta p.tail.length A] 35) none
 have M0:Hid (aJF w (w.alloc (Obj.cells #[.int .i64 p.k,.slice la p.L.length D,.bool p.mem,.slice ka p.key.length O,.slice xa p.X.length E,.slice ua p.U.length M,.int .i64 p.C,.slice ta p.tail.length A] 35)) B h w.heap.size m p (.slice la p.L.length D) (.slice ka p.key.length O) (.slice xa p.X.length E) (.slice ua p.U.length M) (.slice ta p.tail.length A)):=
  ⟨hx.below ((aT gA).mono hx.s) gA.size,rl.K gA,rk.K gA,rx.K gA,ru.K gA,rt.K gA,⟨by simp [go_sem],by simp [go_sem],by simp [go_sem],by simp [go_sem],by simp [go_sem],by simp [go_sem],by simp [go_sem],by simp [go_sem]⟩,eB gA _⟩
 have K0:=aB (hk.K gA);have G:w.heap.size≠h:=(by omega);have g9:=aB (fun w=>aCu p la ka xa ua ta D O E M A w l1 l2 l3 l4);clear gA rl rk sk rx sx ru su rt ho hk hx
 go_enter func88,ntmps88
 go_wp2_with fail
 refine (g9.out _).mono ?_;rintro e w1 ⟨rfl,g1⟩;have K1:=aB (K0.out.K g1);have M1:=aB (M0.out.row (eB g1 _) Z G);clear g1;obtain ⟨q0,q1,q2,q3,q4,q5,q6,q7⟩:=M1.out.n;cases hf:yT p with
 | false=>
   have N:=aB (aJn (c:=c) (r:=r) (fun J=>by rw [(aAw p).2 J] at hf;cases hf));go_wp2;go_ret;exact ⟨false,_,_,rfl,K1.out,N.out,M1.out.g⟩
 | true=>
   have d3:=aB ((aAw p).1 hf);have i5:=aB (sH h v (.slice ka p.key.length O) p.key c r w1 K1.out B M1.out.k Z l1 hr)
   go_wp2_with fail
   refine i5.out.mono ?_;rintro e w2 ⟨rfl,f5,g2⟩;have K2:=aB f5;have M2:=aB (M1.out.row g2 Z G);clear f5 g2 q0 q1 q2 q3 q4 q5 q6 q7;obtain ⟨q0,q1,q2,q3,q4,q5,q6,q7⟩:=M2.out.n;cases b4:(decide ((p.key.length:Int)<=r)&&p.key.all bZ) with
   | false=>
     have N:=aB (aJE (c:=c) (r:=r) d3.out (fun J=>by rw [decide_eq_true J.1,J.2] at b4;cases b4));go_wp2;go_ret;exact ⟨false,_,_,rfl,K2.out,N.out,M2.out.g⟩
   | true=>
     have d2:(p.key.length:Int)<=r/\p.key.all bZ=true:=by
      rw [Bool.and_eq_true,decide_eq_true_eq] at b4;exact b4
     have d0:=aB d2;obtain ⟨n7,_⟩:=d2;have k7:=aB (sH h v (.slice ua p.U.length M) p.U c (r - p.key.length) w2 K2.out B M2.out.u Z l2 (by omega));clear b4
     go_wp2_with fail
     refine k7.out.mono ?_;rintro e w3 ⟨rfl,g0,g3⟩;have K3:=aB g0;have M3:=aB (M2.out.row g3 Z G);clear g0 g3 q0 q1 q2 q3 q4 q5 q6 q7;obtain ⟨q0,q1,q2,q3,q4,q5,q6,q7⟩:=M3.out.n;cases b3:(decide ((p.U.length:Int)<=r - p.key.length)&&p.U.all bZ) with
     | false=>
       have N:=aB (aGp (c:=c) (r:=r) d3.out d0.out (fun J=>by rw [decide_eq_true J.1,J.2] at b3;cases b3));go_wp2;go_ret;exact ⟨false,_,_,rfl,K3.out,N.out,M3.out.g⟩
     | true=>
       have d1:(p.U.length:Int)<=r - p.key.length/\p.U.all bZ=true:=by
        rw [Bool.and_eq_true,decide_eq_true_eq] at b3;exact b3
       have S:=aB (aI3 (c:=c) d3.out d0.out d1);obtain ⟨o2,_⟩:=d1;have k0:=aB (oY h v xa p.X.length E c (r - p.key.length - p.U.length) w3 K3.out l3 (by omega));clear b3
       go_wp2_with fail
       refine k0.out.mono ?_;rintro e w4 ⟨rfl,f7,g4⟩;have K4:=aB f7;have M4:=aB (M3.out.row g4 Z G);clear f7 g4 q0 q1 q2 q3 q4 q5 q6 q7;obtain ⟨q0,q1,q2,q3,q4,q5,q6,q7⟩:=M4.out.n
       by_cases h0:(p.X.length:Int)<=r - p.key.length - p.U.length
       ·rw [decide_eq_true h0]
        have b8:Hid (dQ bE dE p (c,r)=if p.k=3/\dE p.X=false then none else (lU bE p.L (c,r - p.key.length - p.U.length - p.X.length)).bind fun s'=>lU bE p.tail s'):=by
         unfold Hid;rw [S.out,if_neg (by omega)]
        have c9:0<=r - p.key.length - p.U.length - p.X.length/\r - p.key.length - p.U.length - p.X.length<=1048576:=(by omega);clear S
        by_cases h3:p.k=3
        ·have j4:(p.k != 3)=false:=(by simpa using h3);have j0:=aB (wD (.slice xa p.X.length E) p.X w4 (M4.out.t.wideC M4.out.x.s) SX.out HO.out.x.2 l3 M4.out.x.T)
         go_wp2_with fail
         refine j0.out.mono ?_;rintro e w5 ⟨rfl,g5⟩;have K5:=aB (K4.out.K g5);have M5:=aB (M4.out.row (eB g5 _) Z G);clear g5 q0 q1 q2 q3 q4 q5 q6 q7;obtain ⟨q0,q1,q2,q3,q4,q5,q6,q7⟩:=M5.out.n;cases d7:dE p.X with
         | false=>
           have N:Hid (dQ bE dE p (c,r)=none):=(by unfold Hid;rw [b8.out,if_pos ⟨h3,d7⟩]);go_wp2;go_ret;exact ⟨false,_,_,rfl,K5.out,N.out,M5.out.g⟩
         | true=>
           have Y:Hid (dQ bE dE p (c,r)=(lU bE p.L (c,r - p.key.length - p.U.length - p.X.length)).bind fun s'=>lU bE p.tail s'):=by
            unfold Hid;rw [b8.out,if_neg (fun J=>by rw [d7] at J;cases J.2)]
           clear d7 b8;have d6:=aB (fC h v (.slice la p.L.length D) p.L c (r - p.key.length - p.U.length - p.X.length) m B w5 K5.out M5.out.x M5.out.l Z HO.out.l.1 HO.out.l.2 c9 hc)
           go_wp2_with fail
           refine d6.out.mono ?_;rintro e w6 ⟨b6,c6,r6,rfl,b2,y,g6⟩;have K6:=aB b2;have M6:=aB (M5.out.row g6 Z G);clear b2 g6 q0 q1 q2 q3 q4 q5 q6 q7;obtain ⟨q0,q1,q2,q3,q4,q5,q6,q7⟩:=M6.out.n;cases b6 with
           | false=>
             have N:Hid (dQ bE dE p (c,r)=none):=(by unfold Hid;rw [Y.out,y];rfl);clear y;go_wp2;go_ret;exact ⟨false,_,_,rfl,K6.out,N.out,M6.out.g⟩
           | true=>
             simp only [if_true] at y;have d5:Hid (dQ bE dE p (c,r)=lU bE p.tail (c6,r6)):=by unfold Hid;rw [Y.out,y];rfl
             have b9:(0<=r6/\r6<=1048576)/\(-1048576<=c6/\c6<=1048576):=by
              rw [lS bE p.L c _ c9.1] at y
              by_cases J:(p.L.length:Int)<=c/\p.L.all bE=true/\bQ p.L<=r - p.key.length - p.U.length - p.X.length
              ·rw [if_pos J] at y;have l0:=bJ p.L;simp only [Option.some.injEq,Prod.mk.injEq] at y;omega
              ·rw [if_neg J] at y;cases y
             have d4:=aB (fC h v (.slice ta p.tail.length A) p.tail c6 r6 m B w6 K6.out M6.out.x M6.out.e Z HO.out.t.1 HO.out.t.2 b9.1 b9.2);clear y Y
             go_wp2_with fail
             refine d4.out.mono ?_;rintro e w7 ⟨b7,c7,r7,rfl,c1,b5,g7⟩;have N:Hid (dQ bE dE p (c,r)=(if b7 then some (c7,r7) else none)):=(by unfold Hid;rw [d5.out,b5]);have K7:=aB c1;have M7:=aB (M6.out.row g7 Z G);clear c1 g7 b5;go_wp2;go_ret;exact ⟨b7,_,_,rfl,K7.out,N.out,M7.out.g⟩
        ·have j4:(p.k != 3)=true:=by simpa using h3
         have Y:Hid (dQ bE dE p (c,r)=(lU bE p.L (c,r - p.key.length - p.U.length - p.X.length)).bind fun s'=>lU bE p.tail s'):=by
          unfold Hid;rw [b8.out,if_neg (fun J=>h3 J.1)]
         clear b8;have d6:=aB (fC h v (.slice la p.L.length D) p.L c (r - p.key.length - p.U.length - p.X.length) m B w4 K4.out M4.out.x M4.out.l Z HO.out.l.1 HO.out.l.2 c9 hc)
         go_wp2_with fail
         refine d6.out.mono ?_;rintro e w6 ⟨b6,c6,r6,rfl,b2,y,g6⟩;have K6:=aB b2;have M6:=aB (M4.out.row g6 Z G);clear b2 g6 q0 q1 q2 q3 q4 q5 q6 q7;obtain ⟨q0,q1,q2,q3,q4,q5,q6,q7⟩:=M6.out.n;cases b6 with
         | false=>
           have N:Hid (dQ bE dE p (c,r)=none):=(by unfold Hid;rw [Y.out,y];rfl);clear y;go_wp2;go_ret;exact ⟨false,_,_,rfl,K6.out,N.out,M6.out.g⟩
         | true=>
           simp only [if_true] at y;have d5:Hid (dQ bE dE p (c,r)=lU bE p.tail (c6,r6)):=by unfold Hid;rw [Y.out,y];rfl
           have b9:(0<=r6/\r6<=1048576)/\(-1048576<=c6/\c6<=1048576):=by
            rw [lS bE p.L c _ c9.1] at y
            by_cases J:(p.L.length:Int)<=c/\p.L.all bE=true/\bQ p.L<=r - p.key.length - p.U.length - p.X.length
            ·rw [if_pos J] at y;have l0:=bJ p.L;simp only [Option.some.injEq,Prod.mk.injEq] at y;omega
            ·rw [if_neg J] at y;cases y
           have d4:=aB (fC h v (.slice ta p.tail.length A) p.tail c6 r6 m B w6 K6.out M6.out.x M6.out.e Z HO.out.t.1 HO.out.t.2 b9.1 b9.2);clear y Y
           go_wp2_with fail
           refine d4.out.mono ?_;rintro e w7 ⟨b7,c7,r7,rfl,c1,b5,g7⟩;have N:Hid (dQ bE dE p (c,r)=(if b7 then some (c7,r7) else none)):=(by unfold Hid;rw [d5.out,b5]);have K7:=aB c1;have M7:=aB (M6.out.row g7 Z G);clear c1 g7 b5;go_wp2;go_ret;exact ⟨b7,_,_,rfl,K7.out,N.out,M7.out.g⟩
       ·rw [decide_eq_false h0];have N:Hid (dQ bE dE p (c,r)=none):=(by unfold Hid;rw [S.out,if_pos (by omega)]);go_wp2;go_ret;exact ⟨false,_,_,rfl,K4.out,N.out,M4.out.g⟩
theorem aAi {σ:Type} (f:σ->Option σ) (k n:Nat) (s:σ) (h:aO f k s=none) (y:k<=n):aO f n s=none:=by
 obtain ⟨j,rfl⟩:∃ j,n=k+j:=⟨n - k,by omega⟩;rw [rI,h];rfl
def aKY (R:List Nod):Prop:=∀ p∈R,xJ p/\(-9223372036854775808<=p.C/\p.C<=9223372036854775807)
theorem RdN.row {B k:Nat} {w w':World} {v:Value} {R:List Nod} (h:RdN B w v R) (g:w.grownBy w' (some k)) (y:B<=k):RdN B w' v R:=h.beside g (fun j e=>by cases e;exact y)
theorem RdN.tail {B:Nat} {w:World} {b off cap:Nat} {n:Nod} {R:List Nod} (h:RdN B w (.slice (some ⟨b,off,none⟩) (n::R).length cap) (n::R)) (D:Option Addr) (y:Nat) (S:R≠[]->D=some ⟨b,off+8,none⟩) (J:R.length<=y/\y<=maxLen):RdN B w (.slice D R.length y) R:=by
 obtain ⟨a,cp,hv,h1,h2,O⟩:=h;obtain ⟨b0,M,E,Y,A⟩:=O (by simp);simp only [Value.slice.injEq] at hv;rw [<- hv.1] at E;cases E;refine ⟨D,y,rfl,J.1,J.2,fun U=>⟨b,off+8,S U,Y,fun j p Z=>?_⟩⟩;obtain ⟨x1,X,x3,N,x5,G⟩:=A (j+1) p (by simpa using Z);refine ⟨x1,X,x3,N,x5,?_⟩;have:off+(j+1)*8=off+8+j*8:=by omega
 rw [this] at G;exact G
def aJ0 (w0:World) (h B:Nat) (R:List Nod) (res:Option (List Nod × (Int × Int))) (e:Ending) (w':World):Prop:=
 ∃ (b:Bool) (v':Value) (R' P:List Nod) (c' r':Int),e=.returned (.bool b)/\Ck w' h v' c' r'/\res=(if b then some (R',(c',r')) else none)/\(b=true->RdN B w' v' R'/\R=P++R'/\(0<=c'/\c'<=1048576)/\(0<=r'/\r'<=1048576))/\w0.grownBy w' (some h)
theorem aAF (h B:Nat) (m:Int) (hB:B<=h):∀ (d:Nat),d<=200->∀ (mb:Bool) (v:Value) (R:List Nod) (c r:Int) (w:World),Ck w h v c r->Cx w B m->RdN B w v R->aKY R->R.length<=1048576->(0<=c/\c<=1048576)->(0<=r/\r<=1048576)->
  Calls prog 48 #[.pointer (some ⟨h,0,none⟩),.bool mb,.int .i64 d] w (aJ0 w h B R (aE (dQ bE dE) (d+1) mb (R,(c,r)))):=by
 intro d
 induction d using Nat.strongRecOn with
 | ind d ih=>
   intro hd mb v R c r w hk hx hv ho hn hc hr;have a0:=hk.n;have f0:=hk.fn;have p0:=hk.lt;obtain ⟨a,cap,j6,l4,p4,a7⟩:=id hv;cases R with
   | nil=>
     subst j6;have HK:=aB hk;clear hk hv a7 ih
     go_enter func48,ntmps48
     go_wp2;go_ret;exact ⟨false,_,[],[],_,_,rfl,HK.out,rfl,fun e=>(by cases e),World.grownBy.refl _ _⟩
   | cons n R=>
     obtain ⟨b,off,ha,o4,k3⟩:=a7 (by simp);obtain ⟨lv,kv,xv,uv,tv,hp⟩:=k3 0 n (by simp);subst j6 ha;have z0:=hp.k;have z1:=hp.L;have z2:=hp.mem;have z3:=hp.key;have z4:=hp.X;have z5:=hp.U;have z6:=hp.C;have z7:=hp.tail;simp only [Nat.zero_mul,Nat.add_zero] at z0 z1 z2 z3 z4 z5 z6 z7;obtain ⟨la,E,l3,_,_⟩:=hp.rl.sl;obtain ⟨ta,A,m7,_,_⟩:=hp.rt.sl;obtain ⟨ka,J,l5,_,_⟩:=id hp.sk;obtain ⟨xa,G,l8,_,_⟩:=id hp.sx;obtain ⟨ua,D,m4,_,_⟩:=id hp.su;obtain ⟨i8,o7⟩:=ho n (by simp);have j5:=aB i8;have k8:Hid (aKY R):=fun q hq=>ho q (by simp [hq]);have HV:=aB hv;have HP:=aB hp;have HK:=aB hk;have HX:=aB hx;have IH:=aB ih;simp only [List.length_cons] at l4 hn;subst l3 m7 l5 l8 m4;clear hk hx hv ho hp k3 a7 ih i8
     by_cases n7:cap=1
     ·obtain rfl:R=[]:=List.eq_nil_of_length_eq_zero (by omega);have i6:([]:List Nod).length<=1048576:=(by simp);have f3:Hid (RdN B w (.slice (some ⟨b,off,none⟩) 0 0) []):=HV.out.tail (some ⟨b,off,none⟩) 0 (fun h=>absurd rfl h) ⟨by simp,by unfold maxLen;omega⟩;have gS:w.grownBy (w.setCell ⟨h,0,none⟩ (.slice (some ⟨b,off,none⟩) 0 0)) (some h):=kL w ⟨h,0,none⟩ _;have gA:=World.grownBy_alloc (w.setCell ⟨h,0,none⟩ (.slice (some ⟨b,off,none⟩) 0 0)) (Obj.cells #[.int .i64 n.k,.slice la n.L.length E,.bool n.mem,.slice ka n.key.length J,.slice xa n.X.length G,.slice ua n.U.length D,.int .i64 n.C,.slice ta n.tail.length A] 35) none;have M:∀ k,some h=some k->B<=k:=fun k e=>by cases e;exact hB
      have S:Hid (w.grownBy ((w.setCell ⟨h,0,none⟩ (.slice (some ⟨b,off,none⟩) 0 0)).alloc (Obj.cells #[.int .i64 n.k,.slice la n.L.length E,.bool n.mem,.slice ka n.key.length J,.slice xa n.X.length G,.slice ua n.U.length D,.int .i64 n.C,.slice ta n.tail.length A] 35)) (some h)):=aQ gS (eB gA _);have K1:Hid (Ck ((w.setCell ⟨h,0,none⟩ (.slice (some ⟨b,off,none⟩) 0 0)).alloc (Obj.cells #[.int .i64 n.k,.slice la n.L.length E,.bool n.mem,.slice ka n.key.length J,.slice xa n.X.length G,.slice ua n.U.length D,.int .i64 n.C,.slice ta n.tail.length A] 35)) h (.slice (some ⟨b,off,none⟩) 0 0) c r):=(HK.out.setN (.slice (some ⟨b,off,none⟩) 0 0)).K gA;have N1:Hid (N8 ((w.setCell ⟨h,0,none⟩ (.slice (some ⟨b,off,none⟩) 0 0)).alloc (Obj.cells #[.int .i64 n.k,.slice la n.L.length E,.bool n.mem,.slice ka n.key.length J,.slice xa n.X.length G,.slice ua n.U.length D,.int .i64 n.C,.slice ta n.tail.length A] 35)) w.heap.size n (.slice la n.L.length E) (.slice ka n.key.length J) (.slice xa n.X.length G) (.slice ua n.U.length D) (.slice ta n.tail.length A)):=⟨by simp [go_sem],by simp [go_sem],by simp [go_sem],by simp [go_sem],by simp [go_sem],by simp [go_sem],by simp [go_sem],by simp [go_sem]⟩
      by_cases b0:n.mem=mb
      ·subst b0
       have h7:=aB (vD h (.slice (some ⟨b,off,none⟩) 0 0) n (.slice la n.L.length E) (.slice ka n.key.length J) (.slice xa n.X.length G) (.slice ua n.U.length D) (.slice ta n.tail.length A) c r m B _ K1.out (HX.out.below (kQ S.out hB HX.out.s) S.out.size) hB
        (HP.out.rl.beside S.out M) (HP.out.rk.beside S.out M) HP.out.sk (HP.out.rx.beside S.out M) HP.out.sx (HP.out.ru.beside S.out M) HP.out.su (HP.out.rt.beside S.out M) j5.out hr (by omega))
       have d5:w.heap.size≠h:=(by omega);clear gS gA
       go_enter func48,ntmps48
       go_wp2_with fail
       refine h7.out.mono ?_;rintro e w2 ⟨b2,c2,r2,rfl,k2,y,g2⟩;have K2:=aB k2;have O:=aB (aQ S.out g2);have N2:=aB (N1.out.row g2 d5);clear k2 g2;obtain ⟨q0,q1,q2,q3,q4,q5,q6,q7⟩:=N2.out;cases b2 with
       | false=>
         have N:Hid (aE (dQ bE dE) (d+1) n.mem (n::[],(c,r))=none):=by
          unfold Hid;simp only [aE,ne_eq,not_true_eq_false,if_false];rw [y];rfl
         clear y;go_wp2;go_ret;exact ⟨false,_,[],[],_,_,rfl,K2.out,N.out,fun e=>(by cases e),O.out⟩
       | true=>
         simp only [if_true] at y
         have HW:Hid (aE (dQ bE dE) (d+1) n.mem (n::[],(c,r))=if 5<=n.k/\d=0 then none else aO (aE (dQ bE dE) d (decide (n.k=6))) n.C.toNat ([],(c2,r2))):=by
          unfold Hid;simp only [aE,ne_eq,not_true_eq_false,if_false];rw [y];rfl
         obtain ⟨Z,f6⟩:fB bE dE n/\((0<=c2/\c2<=1048576)/\(0<=r2/\r2<=1048576)):=by
          rw [aBV] at y
          by_cases hh:fB bE dE n/\nc n<=c/\nr n<=r
          ·rw [if_pos hh] at y;have:=rH n;have:=rQ n;simp only [Option.some.injEq,Prod.mk.injEq] at y;exact ⟨hh.1,by omega,by omega⟩
          ·rw [if_neg hh] at y;cases y
         have k5:=Z.1;have h3:n.k<5->n.C=0:=fun e=>(Z.2.2.2.2.2.2.2.2.2.1 e).1;have b1:0<=n.C:=Z.2.2.2.2.2.2.2.2.2.2;clear y Z
         by_cases h5:5<=n.k
         ·have HN:Hid (∀ w:World,Calls prog 89 #[.int .i64 n.k] w fun e w'=>e=.returned (.bool true)/\w=w'):=fun w=>by
           have:=iD n.k w;rw [decide_eq_true (show n.k=5\/n.k=6 by omega)] at this;exact this
          by_cases d0:d=0
          ·subst d0;have N:Hid (aE (dQ bE dE) (0+1) n.mem (n::[],(c,r))=none):=by unfold Hid;rw [HW.out,if_pos ⟨h5,rfl⟩]
           go_wp2_with fail
           refine (HN.out _).mono ?_;rintro e w3 ⟨rfl,rfl⟩;go_wp2;go_ret;exact ⟨false,_,[],[],_,_,rfl,K2.out,N.out,fun e=>(by cases e),O.out⟩
          ·have m9:¬ (d:Int)=0:=(by omega);have b3:Hid (aE (dQ bE dE) (d+1) n.mem (n::[],(c,r))=aO (aE (dQ bE dE) d (decide (n.k=6))) n.C.toNat ([],(c2,r2))):=(by unfold Hid;rw [HW.out,if_neg (fun hh=>d0 hh.2)]);obtain ⟨Y,rfl⟩:∃ Y,d=Y+1:=⟨d - 1,by omega⟩;obtain ⟨kb,a8⟩:∃ kb,kb=decide (n.k=6):=⟨_,rfl⟩;have i9:((Y:Int)+1==0)=false:=(by rw [beq_eq_false_iff_ne];omega);have k7:(((Y+1:Nat):Int)==0)=false:=(by rw [beq_eq_false_iff_ne];omega);have l2:(n.k==6)=kb:=(by rw [a8];rfl);rw [<- a8] at b3;have d2:=aB (HX.out.below (kQ O.out hB HX.out.s) O.out.size);have g8:=aB (f3.out.row O.out hB);clear a8 q1 q2 q3 q4 q5 q7
           go_wp2_with fail
           refine (HN.out _).mono ?_;rintro e w3 ⟨rfl,rfl⟩;go_wp2
           go_loopw [47] (fun i wr=>∃ (k:Nat) (vk:Value) (Rk Pk:List Nod) (ck rk:Int),(k:Int)<=n.C/\i=.int .i64 k/\Hid (aO (aE (dQ bE dE) (Y+1) kb) k ([],(c2,r2))=some (Rk,(ck,rk)))/\Hid (Ck wr h vk ck rk)/\Hid (RdN B wr vk Rk)/\Hid ([]=Pk++Rk)/\Hid ((0<=ck/\ck<=1048576)/\(0<=rk/\rk<=1048576))/\Hid (w2.grownBy wr (some h))) (fun i _=>n.C.toNat - (intOf i).toNat)
           case atStart=>exact ⟨0,_,_,[],_,_,b1,rfl,rfl,K2,g8,rfl,f6,World.grownBy.refl _ _⟩
           case round=>
            obtain ⟨k,vk,Rk,Pk,ck,rk,l6,rfl,d4,KK,RK,EK,BK,GK⟩:=hrel;have n0:=(N2.out.row GK.out d5).c0
            by_cases m6:(k:Int)<n.C
            ·have i3:=aB (IH.out Y (by omega) (by omega) kb vk Rk ck rk wr KK.out (d2.out.below (kQ GK.out hB d2.out.s) GK.out.size) RK.out (fun q hq=>k8.out q (by rw [EK.out];exact List.mem_append_right _ hq)) (by have:=congrArg List.length EK.out;simp only [List.length_append] at this;have h9:=i6;omega) BK.out.1 BK.out.2)
             go_wp2_with fail
             refine i3.out.mono ?_;rintro e w4 ⟨b4,v4,R4,P4,c4,r4,rfl,k4,d6,d7,g4⟩
             have HS:Hid (aO (aE (dQ bE dE) (Y+1) kb) (k+1) ([],(c2,r2))=(if b4 then some (R4,(c4,r4)) else none)):=by
              unfold Hid;rw [oL,d4.out,Option.bind_some,d6]
             have K4:=aB k4;have i1:=aB d7;have G4:=aB (aQ GK.out g4);clear k4 d6 d7 g4;cases b4 with
             | false=>
               have N:Hid (aE (dQ bE dE) (Y+1+1) n.mem (n::[],(c,r))=none):=by
                unfold Hid;rw [b3.out];exact aAi _ (k+1) _ _ HS.out (by omega)
               go_wp2;go_ret;exact ⟨false,_,[],[],_,_,rfl,K4.out,N.out,fun e=>(by cases e),aQ O.out G4.out⟩
             | true=>
               obtain ⟨c9,d8,d9,d1⟩:=i1.out rfl;have h8:=aB c9;have i4:Hid ([]=(Pk++P4)++R4):=(by unfold Hid;rw [List.append_assoc,<- d8];exact EK.out);have h0:Hid ((0<=c4/\c4<=1048576)/\(0<=r4/\r4<=1048576)):=⟨d9,d1⟩;clear c9 d8 d9 d1;go_wp2
               go_roundw
               case rel=>exact ⟨k+1,v4,R4,Pk++P4,c4,r4,by omega,by go_num,HS,K4,h8,i4,h0,G4⟩
               case measure=>simp [intOf];omega
            ·have h2:n.C.toNat=k:=by omega
             have N:Hid (aE (dQ bE dE) (Y+1+1) n.mem (n::[],(c,r))=some (Rk,(ck,rk))):=by
              unfold Hid;rw [b3.out,h2];exact d4.out
             go_wp2;go_ret;exact ⟨true,_,Rk,n::Pk,_,_,rfl,KK.out,N.out,fun _=>⟨RK.out,by rw [List.cons_append,<- EK.out],BK.out⟩,aQ O.out GK.out⟩
         ·have HN:Hid (∀ w:World,Calls prog 89 #[.int .i64 n.k] w fun e w'=>e=.returned (.bool false)/\w=w'):=fun w=>by
           have:=iD n.k w;rw [decide_eq_false (show ¬ (n.k=5\/n.k=6) by omega)] at this;exact this
          have f5:n.C=0:=h3 (by omega)
          have N:Hid (aE (dQ bE dE) (d+1) n.mem (n::[],(c,r))=some ([],(c2,r2))):=by
           unfold Hid;rw [HW.out,if_neg (fun hh=>h5 hh.1),f5];rfl
          have h1:=aB ((f3.out.row O.out hB));rw [f5] at q6;have i5:=aB f6
          go_wp2_with fail
          refine (HN.out _).mono ?_;rintro e w3 ⟨rfl,rfl⟩;go_wp2;refine wp_loop_rounds 1 ?_;rw [rounds_succ];go_wp2;go_ret;exact ⟨true,_,[],[n],_,_,rfl,K2.out,N.out,fun _=>⟨h1.out,rfl,i5.out⟩,O.out⟩
      ·have N:Hid (aE (dQ bE dE) (d+1) mb (n::[],(c,r))=none):=by
        unfold Hid;simp only [aE];rw [if_pos b0]
       have m3:(n.mem != mb)=true:=(by simpa using b0);clear gS gA
       go_enter func48,ntmps48
       go_wp2;go_ret;exact ⟨false,_,[],[],_,_,rfl,K1.out,N.out,fun e=>(by cases e),S.out⟩
     ·have i6:R.length<=1048576:=(by omega);have f3:Hid (RdN B w (.slice (some ⟨b,off+8,none⟩) R.length (cap - 1)) R):=HV.out.tail (some ⟨b,off+8,none⟩) (cap - 1) (fun _=>rfl) ⟨by omega,by omega⟩;have gS:w.grownBy (w.setCell ⟨h,0,none⟩ (.slice (some ⟨b,off+8,none⟩) R.length (cap - 1))) (some h):=kL w ⟨h,0,none⟩ _;have gA:=World.grownBy_alloc (w.setCell ⟨h,0,none⟩ (.slice (some ⟨b,off+8,none⟩) R.length (cap - 1))) (Obj.cells #[.int .i64 n.k,.slice la n.L.length E,.bool n.mem,.slice ka n.key.length J,.slice xa n.X.length G,.slice ua n.U.length D,.int .i64 n.C,.slice ta n.tail.length A] 35) none;have M:∀ k,some h=some k->B<=k:=fun k e=>by cases e;exact hB
      have S:Hid (w.grownBy ((w.setCell ⟨h,0,none⟩ (.slice (some ⟨b,off+8,none⟩) R.length (cap - 1))).alloc (Obj.cells #[.int .i64 n.k,.slice la n.L.length E,.bool n.mem,.slice ka n.key.length J,.slice xa n.X.length G,.slice ua n.U.length D,.int .i64 n.C,.slice ta n.tail.length A] 35)) (some h)):=aQ gS (eB gA _);have K1:Hid (Ck ((w.setCell ⟨h,0,none⟩ (.slice (some ⟨b,off+8,none⟩) R.length (cap - 1))).alloc (Obj.cells #[.int .i64 n.k,.slice la n.L.length E,.bool n.mem,.slice ka n.key.length J,.slice xa n.X.length G,.slice ua n.U.length D,.int .i64 n.C,.slice ta n.tail.length A] 35)) h (.slice (some ⟨b,off+8,none⟩) R.length (cap - 1)) c r):=(HK.out.setN (.slice (some ⟨b,off+8,none⟩) R.length (cap - 1))).K gA;have N1:Hid (N8 ((w.setCell ⟨h,0,none⟩ (.slice (some ⟨b,off+8,none⟩) R.length (cap - 1))).alloc (Obj.cells #[.int .i64 n.k,.slice la n.L.length E,.bool n.mem,.slice ka n.key.length J,.slice xa n.X.length G,.slice ua n.U.length D,.int .i64 n.C,.slice ta n.tail.length A] 35)) w.heap.size n (.slice la n.L.length E) (.slice ka n.key.length J) (.slice xa n.X.length G) (.slice ua n.U.length D) (.slice ta n.tail.length A)):=⟨by simp [go_sem],by simp [go_sem],by simp [go_sem],by simp [go_sem],by simp [go_sem],by simp [go_sem],by simp [go_sem],by simp [go_sem]⟩
      by_cases b0:n.mem=mb
      ·subst b0
       have h7:=aB (vD h (.slice (some ⟨b,off+8,none⟩) R.length (cap - 1)) n (.slice la n.L.length E) (.slice ka n.key.length J) (.slice xa n.X.length G) (.slice ua n.U.length D) (.slice ta n.tail.length A) c r m B _ K1.out (HX.out.below (kQ S.out hB HX.out.s) S.out.size) hB
        (HP.out.rl.beside S.out M) (HP.out.rk.beside S.out M) HP.out.sk (HP.out.rx.beside S.out M) HP.out.sx (HP.out.ru.beside S.out M) HP.out.su (HP.out.rt.beside S.out M) j5.out hr (by omega))
       have d5:w.heap.size≠h:=(by omega);clear gS gA
       go_enter func48,ntmps48
       go_wp2_with fail
       refine h7.out.mono ?_;rintro e w2 ⟨b2,c2,r2,rfl,k2,y,g2⟩;have K2:=aB k2;have O:=aB (aQ S.out g2);have N2:=aB (N1.out.row g2 d5);clear k2 g2;obtain ⟨q0,q1,q2,q3,q4,q5,q6,q7⟩:=N2.out;cases b2 with
       | false=>
         have N:Hid (aE (dQ bE dE) (d+1) n.mem (n::R,(c,r))=none):=by
          unfold Hid;simp only [aE,ne_eq,not_true_eq_false,if_false];rw [y];rfl
         clear y;go_wp2;go_ret;exact ⟨false,_,[],[],_,_,rfl,K2.out,N.out,fun e=>(by cases e),O.out⟩
       | true=>
         simp only [if_true] at y
         have HW:Hid (aE (dQ bE dE) (d+1) n.mem (n::R,(c,r))=if 5<=n.k/\d=0 then none else aO (aE (dQ bE dE) d (decide (n.k=6))) n.C.toNat (R,(c2,r2))):=by
          unfold Hid;simp only [aE,ne_eq,not_true_eq_false,if_false];rw [y];rfl
         obtain ⟨Z,f6⟩:fB bE dE n/\((0<=c2/\c2<=1048576)/\(0<=r2/\r2<=1048576)):=by
          rw [aBV] at y
          by_cases hh:fB bE dE n/\nc n<=c/\nr n<=r
          ·rw [if_pos hh] at y;have:=rH n;have:=rQ n;simp only [Option.some.injEq,Prod.mk.injEq] at y;exact ⟨hh.1,by omega,by omega⟩
          ·rw [if_neg hh] at y;cases y
         have k5:=Z.1;have h3:n.k<5->n.C=0:=fun e=>(Z.2.2.2.2.2.2.2.2.2.1 e).1;have b1:0<=n.C:=Z.2.2.2.2.2.2.2.2.2.2;clear y Z
         by_cases h5:5<=n.k
         ·have HN:Hid (∀ w:World,Calls prog 89 #[.int .i64 n.k] w fun e w'=>e=.returned (.bool true)/\w=w'):=fun w=>by
           have:=iD n.k w;rw [decide_eq_true (show n.k=5\/n.k=6 by omega)] at this;exact this
          by_cases d0:d=0
          ·subst d0;have N:Hid (aE (dQ bE dE) (0+1) n.mem (n::R,(c,r))=none):=by unfold Hid;rw [HW.out,if_pos ⟨h5,rfl⟩]
           go_wp2_with fail
           refine (HN.out _).mono ?_;rintro e w3 ⟨rfl,rfl⟩;go_wp2;go_ret;exact ⟨false,_,[],[],_,_,rfl,K2.out,N.out,fun e=>(by cases e),O.out⟩
          ·have m9:¬ (d:Int)=0:=(by omega);have b3:Hid (aE (dQ bE dE) (d+1) n.mem (n::R,(c,r))=aO (aE (dQ bE dE) d (decide (n.k=6))) n.C.toNat (R,(c2,r2))):=(by unfold Hid;rw [HW.out,if_neg (fun hh=>d0 hh.2)]);obtain ⟨Y,rfl⟩:∃ Y,d=Y+1:=⟨d - 1,by omega⟩;obtain ⟨kb,a8⟩:∃ kb,kb=decide (n.k=6):=⟨_,rfl⟩;have i9:((Y:Int)+1==0)=false:=(by rw [beq_eq_false_iff_ne];omega);have k7:(((Y+1:Nat):Int)==0)=false:=(by rw [beq_eq_false_iff_ne];omega);have l2:(n.k==6)=kb:=(by rw [a8];rfl);rw [<- a8] at b3;have d2:=aB (HX.out.below (kQ O.out hB HX.out.s) O.out.size);have g8:=aB (f3.out.row O.out hB);clear a8 q1 q2 q3 q4 q5 q7
           go_wp2_with fail
           refine (HN.out _).mono ?_;rintro e w3 ⟨rfl,rfl⟩;go_wp2
           go_loopw [47] (fun i wr=>∃ (k:Nat) (vk:Value) (Rk Pk:List Nod) (ck rk:Int),(k:Int)<=n.C/\i=.int .i64 k/\Hid (aO (aE (dQ bE dE) (Y+1) kb) k (R,(c2,r2))=some (Rk,(ck,rk)))/\Hid (Ck wr h vk ck rk)/\Hid (RdN B wr vk Rk)/\Hid (R=Pk++Rk)/\Hid ((0<=ck/\ck<=1048576)/\(0<=rk/\rk<=1048576))/\Hid (w2.grownBy wr (some h))) (fun i _=>n.C.toNat - (intOf i).toNat)
           case atStart=>exact ⟨0,_,_,[],_,_,b1,rfl,rfl,K2,g8,rfl,f6,World.grownBy.refl _ _⟩
           case round=>
            obtain ⟨k,vk,Rk,Pk,ck,rk,l6,rfl,d4,KK,RK,EK,BK,GK⟩:=hrel;have n0:=(N2.out.row GK.out d5).c0
            by_cases m6:(k:Int)<n.C
            ·have i3:=aB (IH.out Y (by omega) (by omega) kb vk Rk ck rk wr KK.out (d2.out.below (kQ GK.out hB d2.out.s) GK.out.size) RK.out (fun q hq=>k8.out q (by rw [EK.out];exact List.mem_append_right _ hq)) (by have:=congrArg List.length EK.out;simp only [List.length_append] at this;have h9:=i6;omega) BK.out.1 BK.out.2)
             go_wp2_with fail
             refine i3.out.mono ?_;rintro e w4 ⟨b4,v4,R4,P4,c4,r4,rfl,k4,d6,d7,g4⟩
             have HS:Hid (aO (aE (dQ bE dE) (Y+1) kb) (k+1) (R,(c2,r2))=(if b4 then some (R4,(c4,r4)) else none)):=by
              unfold Hid;rw [oL,d4.out,Option.bind_some,d6]
             have K4:=aB k4;have i1:=aB d7;have G4:=aB (aQ GK.out g4);clear k4 d6 d7 g4;cases b4 with
             | false=>
               have N:Hid (aE (dQ bE dE) (Y+1+1) n.mem (n::R,(c,r))=none):=by
                unfold Hid;rw [b3.out];exact aAi _ (k+1) _ _ HS.out (by omega)
               go_wp2;go_ret;exact ⟨false,_,[],[],_,_,rfl,K4.out,N.out,fun e=>(by cases e),aQ O.out G4.out⟩
             | true=>
               obtain ⟨c9,d8,d9,d1⟩:=i1.out rfl;have h8:=aB c9;have i4:Hid (R=(Pk++P4)++R4):=(by unfold Hid;rw [List.append_assoc,<- d8];exact EK.out);have h0:Hid ((0<=c4/\c4<=1048576)/\(0<=r4/\r4<=1048576)):=⟨d9,d1⟩;clear c9 d8 d9 d1;go_wp2
               go_roundw
               case rel=>exact ⟨k+1,v4,R4,Pk++P4,c4,r4,by omega,by go_num,HS,K4,h8,i4,h0,G4⟩
               case measure=>simp [intOf];omega
            ·have h2:n.C.toNat=k:=by omega
             have N:Hid (aE (dQ bE dE) (Y+1+1) n.mem (n::R,(c,r))=some (Rk,(ck,rk))):=by
              unfold Hid;rw [b3.out,h2];exact d4.out
             go_wp2;go_ret;exact ⟨true,_,Rk,n::Pk,_,_,rfl,KK.out,N.out,fun _=>⟨RK.out,by rw [List.cons_append,<- EK.out],BK.out⟩,aQ O.out GK.out⟩
         ·have HN:Hid (∀ w:World,Calls prog 89 #[.int .i64 n.k] w fun e w'=>e=.returned (.bool false)/\w=w'):=fun w=>by
           have:=iD n.k w;rw [decide_eq_false (show ¬ (n.k=5\/n.k=6) by omega)] at this;exact this
          have f5:n.C=0:=h3 (by omega)
          have N:Hid (aE (dQ bE dE) (d+1) n.mem (n::R,(c,r))=some (R,(c2,r2))):=by
           unfold Hid;rw [HW.out,if_neg (fun hh=>h5 hh.1),f5];rfl
          have h1:=aB ((f3.out.row O.out hB));rw [f5] at q6;have i5:=aB f6
          go_wp2_with fail
          refine (HN.out _).mono ?_;rintro e w3 ⟨rfl,rfl⟩;go_wp2;refine wp_loop_rounds 1 ?_;rw [rounds_succ];go_wp2;go_ret;exact ⟨true,_,R,[n],_,_,rfl,K2.out,N.out,fun _=>⟨h1.out,rfl,i5.out⟩,O.out⟩
      ·have N:Hid (aE (dQ bE dE) (d+1) mb (n::R,(c,r))=none):=by
        unfold Hid;simp only [aE];rw [if_pos b0]
       have m3:(n.mem != mb)=true:=(by simpa using b0);clear gS gA
       go_enter func48,ntmps48
       go_wp2;go_ret;exact ⟨false,_,[],[],_,_,rfl,K1.out,N.out,fun e=>(by cases e),S.out⟩
end Go.Proofs.YtmfehflibkokbaaGreatDoor
