import Derived.Test.YtgifkcpdihphlaaGreatDoorMAK
set_option maxHeartbeats 16000000
set_option maxRecDepth 100000
namespace Go.Proofs.YtgifkcpdihphlaaGreatDoor
open Tryz
open Go.RowKit
theorem iC (k:Int) (w:World):Calls prog 112 #[.int .i64 k] w fun e w'=>e=.returned (.bool (decide (k=5\/k=6)))/\w=w':=by
 by_cases j:k=5
 ·subst j
  go_enter func112,ntmps112
  go_wp2;go_ret;exact ⟨rfl,rfl⟩
 ·have A:(k==5)=false:=by simpa using j
  by_cases h:k=6
  ·subst h
   go_enter func112,ntmps112
   go_wp2;go_ret;exact ⟨rfl,rfl⟩
  ·have y:(k==6)=false:=(by simpa using h);have u:Hid (decide (k=5\/k=6)=false):=(by unfold Hid;simp [j,h]);rw [u.out]
   go_enter func112,ntmps112
   go_wp2;go_ret;exact ⟨by first | rfl | simp [h],rfl⟩
def aAs (p:Nod):Bool:=
 decide (0<=p.k/\p.k<=6)&&((p.mem||decide (p.key=[]))&&((decide (p.k=3)||decide (p.X=[]))&&((decide (p.k=4)||decide (p.U=[]))&&(if 5<=p.k then decide (0<=p.C) else (decide (p.C=0)&&decide (p.tail=[]))))))
theorem aAX (p:Nod):aAs p=true ↔ aAD p:=by
 unfold aAs aAD;simp only [Bool.and_eq_true,Bool.or_eq_true,decide_eq_true_eq];constructor
 ·rintro ⟨y,A,u,j,h⟩;refine ⟨y,A,fun e=>u.resolve_left e,fun e=>j.resolve_left e,fun e=>?_,fun e=>?_⟩
  ·rw [if_pos e] at h;exact of_decide_eq_true h
  ·rw [if_neg (by omega)] at h;rw [Bool.and_eq_true,decide_eq_true_eq,decide_eq_true_eq] at h;exact h
 ·rintro ⟨y,A,u,j,h,D⟩;refine ⟨y,A,?_,?_,?_⟩
  ·by_cases e:p.k=3
   ·exact .inl e
   ·exact .inr (u e)
  ·by_cases e:p.k=4
   ·exact .inl e
   ·exact .inr (j e)
  ·by_cases e:5<=p.k
   ·rw [if_pos e];exact decide_eq_true (h e)
   ·rw [if_neg e,Bool.and_eq_true,decide_eq_true_eq,decide_eq_true_eq];exact D (by omega)
theorem yQ {α:Type} (l:List α):l=[] ↔ (l.length:Int)=0:=by
 constructor
 ·rintro rfl;rfl
 ·intro h;exact List.eq_nil_of_length_eq_zero (by omega)
theorem aEc (p:Nod):aAs p=true ↔ ((0<=p.k/\p.k<=6)/\(p.mem=true\/(p.key.length:Int)=0)/\(p.k≠3->(p.X.length:Int)=0)/\(p.k≠4->(p.U.length:Int)=0)/\(5<=p.k->0<=p.C)/\(p.k<5->p.C=0/\(p.tail.length:Int)=0)):=by
 rw [aAX];unfold aAD;rw [yQ p.key,yQ p.X,yQ p.U,yQ p.tail]
theorem aCY (p:Nod) (M O J N S:Option Addr) (u A j y D:Nat) (w:World) (l1:p.key.length<=1048576) (l2:p.U.length<=1048576) (Y:p.X.length<=1048576) (Z:p.tail.length<=1048576) :
  Calls prog 136 #[.agg #[.int .i64 p.k,.slice M p.L.length u,.bool p.mem,.slice O p.key.length A,.slice J p.X.length j,.slice N p.U.length y,.int .i64 p.C,.slice S p.tail.length D]] w fun e w'=>e=.returned (.bool (aAs p))/\w.grownBy w' none:=by
 have G:=aB (fun (k:Int) (w:World)=>iC k w);cases E:p.mem with
 | true=>
   have h:=aB (aEc p);rw [E] at h;clear E
   go_enter func136,ntmps136
   go_wp2_with (go_at_call 112;refine (G.out _ _).mono ?_;rintro e H ⟨rfl,rfl⟩)
   all_goals go_ret
   all_goals refine ⟨?_,gWA⟩
   all_goals refine congrArg (fun b=>Ending.returned (Value.bool b)) (?_:_=aAs p)
   all_goals rw [Bool.eq_iff_iff,h.out]
   all_goals clear h G
   all_goals generalize p.key.length=n1 at *
   all_goals generalize p.X.length=n2 at *
   all_goals generalize p.U.length=n3 at *
   all_goals generalize p.tail.length=n4 at *
   all_goals generalize p.k=kk at *
   all_goals generalize p.C=cc at *
   all_goals try simp
   all_goals try simp only [bne_eq_false_iff_eq] at *
   all_goals omega
 | false=>
   have h:=aB (aEc p);rw [E] at h;clear E
   go_enter func136,ntmps136
   go_wp2_with (go_at_call 112;refine (G.out _ _).mono ?_;rintro e H ⟨rfl,rfl⟩)
   all_goals go_ret
   all_goals refine ⟨?_,gWA⟩
   all_goals refine congrArg (fun b=>Ending.returned (Value.bool b)) (?_:_=aAs p)
   all_goals rw [Bool.eq_iff_iff,h.out]
   all_goals clear h G
   all_goals generalize p.key.length=n1 at *
   all_goals generalize p.X.length=n2 at *
   all_goals generalize p.U.length=n3 at *
   all_goals generalize p.tail.length=n4 at *
   all_goals generalize p.k=kk at *
   all_goals generalize p.C=cc at *
   all_goals try simp
   all_goals try simp only [bne_eq_false_iff_eq] at *
   all_goals omega
theorem N8.row {W u:World} {b h:Nat} {p:Nod} {lv A D y tv:Value} (n:N8 W b p lv A D y tv) (g:W.grownBy u (some h)) (E:b≠h):N8 u b p lv A D y tv:=
 have j:some b≠some h:=fun e=>E (by cases e;rfl)
 ⟨g.cell n.c0 j,g.cell n.c1 j,g.cell n.c2 j,g.cell n.c3 j,g.cell n.c4 j,g.cell n.c5 j,g.cell n.c6 j,g.cell n.c7 j⟩
structure aKw (w0 W:World) (B h b:Nat) (m:Int) (p:Nod) (lv kv xv uv tv:Value):Prop where
 x:Cx W B m
 l:RdC B W lv p.L
 k:RdI B W kv p.key
 t:RdB B W xv p.X
 u:RdI B W uv p.U
 e:RdC B W tv p.tail
 n:N8 W b p lv kv xv uv tv
 g:w0.grownBy W (some h)
theorem aKw.row {w0 W A:World} {B h b:Nat} {m:Int} {p:Nod} {lv E G D tv:Value} (s:aKw w0 W B h b m p lv E G D tv) (g:W.grownBy A (some h)) (y:B<=h) (H:b≠h):aKw w0 A B h b m p lv E G D tv:=
 have j:∀ k,some h=some k->B<=k:=fun k e=>by cases e;exact y
 ⟨s.x.below (lB g y s.x.s) g.size,s.l.beside g j,s.k.beside g j,s.t.beside g j,s.u.beside g j,s.e.beside g j,s.n.row g H,aS s.g g⟩
open Classical in
theorem aJ2 {p:Nod} {c r:Int} (h:¬ aAD p):dU bG dI p (c,r)=none:=by unfold dU;rw [if_pos h]
open Classical in
theorem aKz {p:Nod} {c r:Int} (h:aAD p) (y:¬ ((p.key.length:Int)<=r/\p.key.all bZ=true)):dU bG dI p (c,r)=none:=by
 unfold dU;rw [if_neg (fun u=>u h),if_pos]
 by_cases j:(p.key.length:Int)<=r
 ·right;exact Bool.eq_false_iff.2 (fun e=>y ⟨j,e⟩)
 ·left;show r - (p.key.length:Int)<0;omega
open Classical in
theorem aHG {p:Nod} {c r:Int} (h:aAD p) (A:(p.key.length:Int)<=r/\p.key.all bZ=true) (u:¬ ((p.U.length:Int)<=r - p.key.length/\p.U.all bZ=true)):dU bG dI p (c,r)=none:=by
 unfold dU;rw [if_neg (fun y=>y h),if_neg,if_pos]
 ·by_cases j:(p.U.length:Int)<=r - p.key.length
  ·right;exact Bool.eq_false_iff.2 (fun e=>u ⟨j,e⟩)
  ·left;show r - (p.key.length:Int) - p.U.length<0;omega
 ·rintro (j | j)
  ·have:r - (p.key.length:Int)<0:=j;omega
  ·rw [A.2] at j;cases j
open Classical in
theorem aJp {p:Nod} {c r:Int} (h:aAD p) (A:(p.key.length:Int)<=r/\p.key.all bZ=true) (u:(p.U.length:Int)<=r - p.key.length/\p.U.all bZ=true) :
  dU bG dI p (c,r)=if r - p.key.length - p.U.length - p.X.length<0 then none else if p.k=3/\dI p.X=false then none else (mB bG p.L (c,r - p.key.length - p.U.length - p.X.length)).bind fun j=>mB bG p.tail j:=by
 unfold dU;rw [if_neg (fun y=>y h),if_neg,if_neg]
 ·rintro (h1 | h1)
  ·have:r - (p.key.length:Int) - p.U.length<0:=h1;omega
  ·rw [u.2] at h1;cases h1
 ·rintro (h1 | h1)
  ·have:r - (p.key.length:Int)<0:=h1;omega
  ·rw [A.2] at h1;cases h1
theorem uS (h:Nat) (v:Value) (p:Nod) (lv kv xv uv tv:Value) (c r m:Int) (B:Nat) (w:World) (hk:Ck w h v c r) (hx:Cx w B m) (S:B<=h) (rl:RdC B w lv p.L) (rk:RdI B w kv p.key) (sk:Sl kv p.key.length) (rx:RdB B w xv p.X) (sx:Sl xv p.X.length) (ru:RdI B w uv p.U) (su:Sl uv p.U.length) (rt:RdC B w tv p.tail) (ho:zP p) (hr:0<=r/\r<=1048576) (hc : -1048576<=c/\c<=1048576) :
  Calls prog 111 #[.pointer (some ⟨h,0,none⟩),.agg #[.int .i64 p.k,lv,.bool p.mem,kv,xv,uv,.int .i64 p.C,tv]] w fun e w'=>∃ (b:Bool) (c' r':Int),e=.returned (.bool b)/\Ck w' h v c' r'/\dU bG dI p (c,r)=(if b then some (c',r') else none)/\w.grownBy w' (some h):=by
 have o2:=hk.lt;obtain ⟨la,y,j6,_,_⟩:=rl.sl;obtain ⟨ta,D,h8,_,_⟩:=rt.sl;obtain ⟨ka,M,i0,k1,k2⟩:=id sk;obtain ⟨xa,A,j0,x1,x2⟩:=id sx;obtain ⟨ua,J,i9,u1,u2⟩:=id su;have l1:=ho.k;have l2:=ho.u;have l3:=ho.x.1;have l4:=ho.t.1;have SX:=aB sx;have HO:=aB ho;subst j6 h8 i0 j0 i9;have gA:=World.grownBy_alloc w (Obj.cells #[.int .i64 p.k,.slice la p.L.length y,.bool p.mem,.slice ka p.key.length M,.slice xa p.X.length A,.slice ua p.U.length J,.int .i64 p.C,.slice ta p.tail.length D] 49) none
 have M0:Hid (aKw w (w.alloc (Obj.cells #[.int .i64 p.k,.slice la p.L.length y,.bool p.mem,.slice ka p.key.length M,.slice xa p.X.length A,.slice ua p.U.length J,.int .i64 p.C,.slice ta p.tail.length D] 49)) B h w.heap.size m p (.slice la p.L.length y) (.slice ka p.key.length M) (.slice xa p.X.length A) (.slice ua p.U.length J) (.slice ta p.tail.length D)):=
  ⟨hx.below ((aO gA).mono hx.s) gA.size,rl.K gA,rk.K gA,rx.K gA,ru.K gA,rt.K gA,⟨by simp [go_sem],by simp [go_sem],by simp [go_sem],by simp [go_sem],by simp [go_sem],by simp [go_sem],by simp [go_sem],by simp [go_sem]⟩,eJ gA _⟩
 have K0:=aB (hk.K gA);have E:w.heap.size≠h:=(by omega);have h1:=aB (fun w=>aCY p la ka xa ua ta y M A J D w l1 l2 l3 l4);clear gA rl rk sk rx sx ru su rt ho hk hx
 go_enter func111,ntmps111
 go_wp2_with fail
 refine (h1.out _).mono ?_;rintro e w1 ⟨rfl,g1⟩;have K1:=aB (K0.out.K g1);have M1:=aB (M0.out.row (eJ g1 _) S E);clear g1;obtain ⟨q0,q1,q2,Y,q4,q5,q6,Z⟩:=M1.out.n;cases hf:aAs p with
 | false=>
   have H:=aB (aJ2 (c:=c) (r:=r) (fun G=>by rw [(aAX p).2 G] at hf;cases hf));go_wp2;go_ret;exact ⟨false,_,_,rfl,K1.out,H.out,M1.out.g⟩
 | true=>
   have d4:=aB ((aAX p).1 hf);have j5:=aB (tC h v (.slice ka p.key.length M) p.key c r w1 K1.out B M1.out.k S l1 hr)
   go_wp2_with fail
   refine j5.out.mono ?_;rintro e w2 ⟨rfl,h2,g2⟩;have K2:=aB h2;have M2:=aB (M1.out.row g2 S E);clear h2 g2 q0 q1 q2 Y q4 q5 q6 Z;obtain ⟨q0,q1,q2,Y,q4,q5,q6,Z⟩:=M2.out.n;cases b8:(decide ((p.key.length:Int)<=r)&&p.key.all bZ) with
   | false=>
     have H:=aB (aKz (c:=c) (r:=r) d4.out (fun G=>by rw [decide_eq_true G.1,G.2] at b8;cases b8));go_wp2;go_ret;exact ⟨false,_,_,rfl,K2.out,H.out,M2.out.g⟩
   | true=>
     have c9:(p.key.length:Int)<=r/\p.key.all bZ=true:=by
      rw [Bool.and_eq_true,decide_eq_true_eq] at b8;exact b8
     have d0:=aB c9;obtain ⟨n3,_⟩:=c9;have j9:=aB (tC h v (.slice ua p.U.length J) p.U c (r - p.key.length) w2 K2.out B M2.out.u S l2 (by omega));clear b8
     go_wp2_with fail
     refine j9.out.mono ?_;rintro e w3 ⟨rfl,f6,g3⟩;have K3:=aB f6;have M3:=aB (M2.out.row g3 S E);clear f6 g3 q0 q1 q2 Y q4 q5 q6 Z;obtain ⟨q0,q1,q2,Y,q4,q5,q6,Z⟩:=M3.out.n;cases b4:(decide ((p.U.length:Int)<=r - p.key.length)&&p.U.all bZ) with
     | false=>
       have H:=aB (aHG (c:=c) (r:=r) d4.out d0.out (fun G=>by rw [decide_eq_true G.1,G.2] at b4;cases b4));go_wp2;go_ret;exact ⟨false,_,_,rfl,K3.out,H.out,M3.out.g⟩
     | true=>
       have c8:(p.U.length:Int)<=r - p.key.length/\p.U.all bZ=true:=by
        rw [Bool.and_eq_true,decide_eq_true_eq] at b4;exact b4
       have O:=aB (aJp (c:=c) d4.out d0.out c8);obtain ⟨o0,_⟩:=c8;have h7:=aB (pI h v xa p.X.length A c (r - p.key.length - p.U.length) w3 K3.out l3 (by omega));clear b4
       go_wp2_with fail
       refine h7.out.mono ?_;rintro e w4 ⟨rfl,f9,g4⟩;have K4:=aB f9;have M4:=aB (M3.out.row g4 S E);clear f9 g4 q0 q1 q2 Y q4 q5 q6 Z;obtain ⟨q0,q1,q2,Y,q4,q5,q6,Z⟩:=M4.out.n
       by_cases g9:(p.X.length:Int)<=r - p.key.length - p.U.length
       ·rw [decide_eq_true g9]
        have b9:Hid (dU bG dI p (c,r)=if p.k=3/\dI p.X=false then none else (mB bG p.L (c,r - p.key.length - p.U.length - p.X.length)).bind fun s'=>mB bG p.tail s'):=by
         unfold Hid;rw [O.out,if_neg (by omega)]
        have c3:0<=r - p.key.length - p.U.length - p.X.length/\r - p.key.length - p.U.length - p.X.length<=1048576:=(by omega);clear O
        by_cases h3:p.k=3
        ·have j4:(p.k != 3)=false:=(by simpa using h3);have h9:=aB (xK (.slice xa p.X.length A) p.X w4 (M4.out.t.wideC M4.out.x.s) SX.out HO.out.x.2 l3 M4.out.x.T)
         go_wp2_with fail
         refine h9.out.mono ?_;rintro e w5 ⟨rfl,g5⟩;have K5:=aB (K4.out.K g5);have M5:=aB (M4.out.row (eJ g5 _) S E);clear g5 q0 q1 q2 Y q4 q5 q6 Z;obtain ⟨q0,q1,q2,Y,q4,q5,q6,Z⟩:=M5.out.n;cases d3:dI p.X with
         | false=>
           have H:Hid (dU bG dI p (c,r)=none):=(by unfold Hid;rw [b9.out,if_pos ⟨h3,d3⟩]);go_wp2;go_ret;exact ⟨false,_,_,rfl,K5.out,H.out,M5.out.g⟩
         | true=>
           have N:Hid (dU bG dI p (c,r)=(mB bG p.L (c,r - p.key.length - p.U.length - p.X.length)).bind fun s'=>mB bG p.tail s'):=by
            unfold Hid;rw [b9.out,if_neg (fun G=>by rw [d3] at G;cases G.2)]
           clear d3 b9;have d1:=aB (fH h v (.slice la p.L.length y) p.L c (r - p.key.length - p.U.length - p.X.length) m B w5 K5.out M5.out.x M5.out.l S HO.out.l.1 HO.out.l.2 c3 hc)
           go_wp2_with fail
           refine d1.out.mono ?_;rintro e w6 ⟨b6,c6,r6,rfl,b2,j,g6⟩;have K6:=aB b2;have M6:=aB (M5.out.row g6 S E);clear b2 g6 q0 q1 q2 Y q4 q5 q6 Z;obtain ⟨q0,q1,q2,Y,q4,q5,q6,Z⟩:=M6.out.n;cases b6 with
           | false=>
             have H:Hid (dU bG dI p (c,r)=none):=(by unfold Hid;rw [N.out,j];rfl);clear j;go_wp2;go_ret;exact ⟨false,_,_,rfl,K6.out,H.out,M6.out.g⟩
           | true=>
             simp only [if_true] at j;have d2:Hid (dU bG dI p (c,r)=mB bG p.tail (c6,r6)):=by unfold Hid;rw [N.out,j];rfl
             have b3:(0<=r6/\r6<=1048576)/\(-1048576<=c6/\c6<=1048576):=by
              rw [mF bG p.L c _ c3.1] at j
              by_cases G:(p.L.length:Int)<=c/\p.L.all bG=true/\bN p.L<=r - p.key.length - p.U.length - p.X.length
              ·rw [if_pos G] at j;have j1:=bB p.L;simp only [Option.some.injEq,Prod.mk.injEq] at j;omega
              ·rw [if_neg G] at j;cases j
             have d5:=aB (fH h v (.slice ta p.tail.length D) p.tail c6 r6 m B w6 K6.out M6.out.x M6.out.e S HO.out.t.1 HO.out.t.2 b3.1 b3.2);clear j N
             go_wp2_with fail
             refine d5.out.mono ?_;rintro e w7 ⟨b7,c7,r7,rfl,b5,b0,g7⟩;have H:Hid (dU bG dI p (c,r)=(if b7 then some (c7,r7) else none)):=(by unfold Hid;rw [d2.out,b0]);have K7:=aB b5;have M7:=aB (M6.out.row g7 S E);clear b5 g7 b0;go_wp2;go_ret;exact ⟨b7,_,_,rfl,K7.out,H.out,M7.out.g⟩
        ·have j4:(p.k != 3)=true:=by simpa using h3
         have N:Hid (dU bG dI p (c,r)=(mB bG p.L (c,r - p.key.length - p.U.length - p.X.length)).bind fun s'=>mB bG p.tail s'):=by
          unfold Hid;rw [b9.out,if_neg (fun G=>h3 G.1)]
         clear b9;have d1:=aB (fH h v (.slice la p.L.length y) p.L c (r - p.key.length - p.U.length - p.X.length) m B w4 K4.out M4.out.x M4.out.l S HO.out.l.1 HO.out.l.2 c3 hc)
         go_wp2_with fail
         refine d1.out.mono ?_;rintro e w6 ⟨b6,c6,r6,rfl,b2,j,g6⟩;have K6:=aB b2;have M6:=aB (M4.out.row g6 S E);clear b2 g6 q0 q1 q2 Y q4 q5 q6 Z;obtain ⟨q0,q1,q2,Y,q4,q5,q6,Z⟩:=M6.out.n;cases b6 with
         | false=>
           have H:Hid (dU bG dI p (c,r)=none):=(by unfold Hid;rw [N.out,j];rfl);clear j;go_wp2;go_ret;exact ⟨false,_,_,rfl,K6.out,H.out,M6.out.g⟩
         | true=>
           simp only [if_true] at j;have d2:Hid (dU bG dI p (c,r)=mB bG p.tail (c6,r6)):=by unfold Hid;rw [N.out,j];rfl
           have b3:(0<=r6/\r6<=1048576)/\(-1048576<=c6/\c6<=1048576):=by
            rw [mF bG p.L c _ c3.1] at j
            by_cases G:(p.L.length:Int)<=c/\p.L.all bG=true/\bN p.L<=r - p.key.length - p.U.length - p.X.length
            ·rw [if_pos G] at j;have j1:=bB p.L;simp only [Option.some.injEq,Prod.mk.injEq] at j;omega
            ·rw [if_neg G] at j;cases j
           have d5:=aB (fH h v (.slice ta p.tail.length D) p.tail c6 r6 m B w6 K6.out M6.out.x M6.out.e S HO.out.t.1 HO.out.t.2 b3.1 b3.2);clear j N
           go_wp2_with fail
           refine d5.out.mono ?_;rintro e w7 ⟨b7,c7,r7,rfl,b5,b0,g7⟩;have H:Hid (dU bG dI p (c,r)=(if b7 then some (c7,r7) else none)):=(by unfold Hid;rw [d2.out,b0]);have K7:=aB b5;have M7:=aB (M6.out.row g7 S E);clear b5 g7 b0;go_wp2;go_ret;exact ⟨b7,_,_,rfl,K7.out,H.out,M7.out.g⟩
       ·rw [decide_eq_false g9];have H:Hid (dU bG dI p (c,r)=none):=(by unfold Hid;rw [O.out,if_pos (by omega)]);go_wp2;go_ret;exact ⟨false,_,_,rfl,K4.out,H.out,M4.out.g⟩
theorem aA2 {σ:Type} (f:σ->Option σ) (k n:Nat) (s:σ) (h:aN f k s=none) (u:k<=n):aN f n s=none:=by
 obtain ⟨j,rfl⟩:∃ j,n=k+j:=⟨n - k,by omega⟩;rw [sV,h];rfl
def aMJ (R:List Nod):Prop:=∀ p∈R,zP p/\(-9223372036854775808<=p.C/\p.C<=9223372036854775807)
theorem RdN.row {B k:Nat} {w w':World} {v:Value} {R:List Nod} (h:RdN B w v R) (g:w.grownBy w' (some k)) (u:B<=k):RdN B w' v R:=h.beside g (fun j e=>by cases e;exact u)
theorem RdN.tail {B:Nat} {w:World} {b off cap:Nat} {n:Nod} {R:List Nod} (h:RdN B w (.slice (some ⟨b,off,none⟩) (n::R).length cap) (n::R)) (A:Option Addr) (u:Nat) (L:R≠[]->A=some ⟨b,off+8,none⟩) (H:R.length<=u/\u<=maxLen):RdN B w (.slice A R.length u) R:=by
 obtain ⟨a,cp,hv,h1,h2,N⟩:=h;obtain ⟨b0,G,D,Z,y⟩:=N (by simp);simp only [Value.slice.injEq] at hv;rw [<- hv.1] at D;cases D;refine ⟨A,u,rfl,H.1,H.2,fun X=>⟨b,off+8,L X,Z,fun j p O=>?_⟩⟩;obtain ⟨S,M,J,U,Y,E⟩:=y (j+1) p (by simpa using O);refine ⟨S,M,J,U,Y,?_⟩;have:off+(j+1)*8=off+8+j*8:=by omega
 rw [this] at E;exact E
def aKU (w0:World) (h B:Nat) (R:List Nod) (res:Option (List Nod × (Int × Int))) (e:Ending) (w':World):Prop:=
 ∃ (b:Bool) (v':Value) (R' P:List Nod) (c' r':Int),e=.returned (.bool b)/\Ck w' h v' c' r'/\res=(if b then some (R',(c',r')) else none)/\(b=true->RdN B w' v' R'/\R=P++R'/\(0<=c'/\c'<=1048576)/\(0<=r'/\r'<=1048576))/\w0.grownBy w' (some h)
theorem aBd (h B:Nat) (m:Int) (hB:B<=h):∀ (d:Nat),d<=200->∀ (mb:Bool) (v:Value) (R:List Nod) (c r:Int) (w:World),Ck w h v c r->Cx w B m->RdN B w v R->aMJ R->R.length<=1048576->(0<=c/\c<=1048576)->(0<=r/\r<=1048576)->
  Calls prog 79 #[.pointer (some ⟨h,0,none⟩),.bool mb,.int .i64 d] w (aKU w h B R (aD (dU bG dI) (d+1) mb (R,(c,r)))):=by
 intro d
 induction d using Nat.strongRecOn with
 | ind d ih=>
   intro hd mb v R c r w hk hx hv ho hn hc hr;have a0:=hk.n;have f0:=hk.fn;have p3:=hk.lt;obtain ⟨a,cap,j3,l1,o3,a8⟩:=id hv;cases R with
   | nil=>
     subst j3;have HK:=aB hk;clear hk hv a8 ih
     go_enter func79,ntmps79
     go_wp2;go_ret;exact ⟨false,_,[],[],_,_,rfl,HK.out,rfl,fun e=>(by cases e),World.grownBy.refl _ _⟩
   | cons n R=>
     obtain ⟨b,off,ha,p0,k8⟩:=a8 (by simp);obtain ⟨lv,kv,xv,uv,tv,hp⟩:=k8 0 n (by simp);subst j3 ha;have z0:=hp.k;have z1:=hp.L;have z2:=hp.mem;have z3:=hp.key;have z4:=hp.X;have z5:=hp.U;have z6:=hp.C;have z7:=hp.tail;simp only [Nat.zero_mul,Nat.add_zero] at z0 z1 z2 z3 z4 z5 z6 z7;obtain ⟨la,A,m6,_,_⟩:=hp.rl.sl;obtain ⟨ta,E,l2,_,_⟩:=hp.rt.sl;obtain ⟨ka,y,l3,_,_⟩:=id hp.sk;obtain ⟨xa,D,l9,_,_⟩:=id hp.sx;obtain ⟨ua,u,l8,_,_⟩:=id hp.su;obtain ⟨j1,o2⟩:=ho n (by simp);have i7:=aB j1;have k0:Hid (aMJ R):=fun q hq=>ho q (by simp [hq]);have HV:=aB hv;have S:=aB hp;have HK:=aB hk;have HX:=aB hx;have IH:=aB ih;simp only [List.length_cons] at l1 hn;subst m6 l2 l3 l9 l8;clear hk hx hv ho hp k8 a8 ih j1
     by_cases n7:cap=1
     ·obtain rfl:R=[]:=List.eq_nil_of_length_eq_zero (by omega);have g6:([]:List Nod).length<=1048576:=(by simp);have c7:Hid (RdN B w (.slice (some ⟨b,off,none⟩) 0 0) []):=HV.out.tail (some ⟨b,off,none⟩) 0 (fun h=>absurd rfl h) ⟨by simp,by unfold maxLen;omega⟩;have gS:w.grownBy (w.setCell ⟨h,0,none⟩ (.slice (some ⟨b,off,none⟩) 0 0)) (some h):=kN w ⟨h,0,none⟩ _;have gA:=World.grownBy_alloc (w.setCell ⟨h,0,none⟩ (.slice (some ⟨b,off,none⟩) 0 0)) (Obj.cells #[.int .i64 n.k,.slice la n.L.length A,.bool n.mem,.slice ka n.key.length y,.slice xa n.X.length D,.slice ua n.U.length u,.int .i64 n.C,.slice ta n.tail.length E] 49) none;have G:∀ k,some h=some k->B<=k:=fun k e=>by cases e;exact hB
      have M:Hid (w.grownBy ((w.setCell ⟨h,0,none⟩ (.slice (some ⟨b,off,none⟩) 0 0)).alloc (Obj.cells #[.int .i64 n.k,.slice la n.L.length A,.bool n.mem,.slice ka n.key.length y,.slice xa n.X.length D,.slice ua n.U.length u,.int .i64 n.C,.slice ta n.tail.length E] 49)) (some h)):=aS gS (eJ gA _);have K1:Hid (Ck ((w.setCell ⟨h,0,none⟩ (.slice (some ⟨b,off,none⟩) 0 0)).alloc (Obj.cells #[.int .i64 n.k,.slice la n.L.length A,.bool n.mem,.slice ka n.key.length y,.slice xa n.X.length D,.slice ua n.U.length u,.int .i64 n.C,.slice ta n.tail.length E] 49)) h (.slice (some ⟨b,off,none⟩) 0 0) c r):=(HK.out.setN (.slice (some ⟨b,off,none⟩) 0 0)).K gA;have N1:Hid (N8 ((w.setCell ⟨h,0,none⟩ (.slice (some ⟨b,off,none⟩) 0 0)).alloc (Obj.cells #[.int .i64 n.k,.slice la n.L.length A,.bool n.mem,.slice ka n.key.length y,.slice xa n.X.length D,.slice ua n.U.length u,.int .i64 n.C,.slice ta n.tail.length E] 49)) w.heap.size n (.slice la n.L.length A) (.slice ka n.key.length y) (.slice xa n.X.length D) (.slice ua n.U.length u) (.slice ta n.tail.length E)):=⟨by simp [go_sem],by simp [go_sem],by simp [go_sem],by simp [go_sem],by simp [go_sem],by simp [go_sem],by simp [go_sem],by simp [go_sem]⟩
      by_cases a6:n.mem=mb
      ·subst a6
       have h8:=aB (uS h (.slice (some ⟨b,off,none⟩) 0 0) n (.slice la n.L.length A) (.slice ka n.key.length y) (.slice xa n.X.length D) (.slice ua n.U.length u) (.slice ta n.tail.length E) c r m B _ K1.out (HX.out.below (lB M.out hB HX.out.s) M.out.size) hB
        (S.out.rl.beside M.out G) (S.out.rk.beside M.out G) S.out.sk (S.out.rx.beside M.out G) S.out.sx (S.out.ru.beside M.out G) S.out.su (S.out.rt.beside M.out G) i7.out hr (by omega))
       have d7:w.heap.size≠h:=(by omega);clear gS gA
       go_enter func79,ntmps79
       go_wp2_with fail
       refine h8.out.mono ?_;rintro e w2 ⟨b2,c2,r2,rfl,k2,j,g2⟩;have K2:=aB k2;have O:=aB (aS M.out g2);have N2:=aB (N1.out.row g2 d7);clear k2 g2;obtain ⟨q0,q1,q2,q3,q4,q5,q6,q7⟩:=N2.out;cases b2 with
       | false=>
         have H:Hid (aD (dU bG dI) (d+1) n.mem (n::[],(c,r))=none):=by
          unfold Hid;simp only [aD,ne_eq,not_true_eq_false,if_false];rw [j];rfl
         clear j;go_wp2;go_ret;exact ⟨false,_,[],[],_,_,rfl,K2.out,H.out,fun e=>(by cases e),O.out⟩
       | true=>
         simp only [if_true] at j
         have HW:Hid (aD (dU bG dI) (d+1) n.mem (n::[],(c,r))=if 5<=n.k/\d=0 then none else aN (aD (dU bG dI) d (decide (n.k=6))) n.C.toNat ([],(c2,r2))):=by
          unfold Hid;simp only [aD,ne_eq,not_true_eq_false,if_false];rw [j];rfl
         obtain ⟨J,d3⟩:fJ bG dI n/\((0<=c2/\c2<=1048576)/\(0<=r2/\r2<=1048576)):=by
          rw [aCC] at j
          by_cases hh:fJ bG dI n/\nc n<=c/\nr n<=r
          ·rw [if_pos hh] at j;have:=oP n;have:=pC n;simp only [Option.some.injEq,Prod.mk.injEq] at j;exact ⟨hh.1,by omega,by omega⟩
          ·rw [if_neg hh] at j;cases j
         have k5:=J.1;have h0:n.k<5->n.C=0:=fun e=>(J.2.2.2.2.2.2.2.2.2.1 e).1;have b1:0<=n.C:=J.2.2.2.2.2.2.2.2.2.2;clear j J
         by_cases h5:5<=n.k
         ·have HN:Hid (∀ w:World,Calls prog 112 #[.int .i64 n.k] w fun e w'=>e=.returned (.bool true)/\w=w'):=fun w=>by
           have:=iC n.k w;rw [decide_eq_true (show n.k=5\/n.k=6 by omega)] at this;exact this
          by_cases c6:d=0
          ·subst c6;have H:Hid (aD (dU bG dI) (0+1) n.mem (n::[],(c,r))=none):=by unfold Hid;rw [HW.out,if_pos ⟨h5,rfl⟩]
           go_wp2_with fail
           refine (HN.out _).mono ?_;rintro e w3 ⟨rfl,rfl⟩;go_wp2;go_ret;exact ⟨false,_,[],[],_,_,rfl,K2.out,H.out,fun e=>(by cases e),O.out⟩
          ·have l6:¬ (d:Int)=0:=(by omega);have b5:Hid (aD (dU bG dI) (d+1) n.mem (n::[],(c,r))=aN (aD (dU bG dI) d (decide (n.k=6))) n.C.toNat ([],(c2,r2))):=(by unfold Hid;rw [HW.out,if_neg (fun hh=>c6 hh.2)]);obtain ⟨N,rfl⟩:∃ N,d=N+1:=⟨d - 1,by omega⟩;obtain ⟨kb,Y⟩:∃ kb,kb=decide (n.k=6):=⟨_,rfl⟩;have k9:((N:Int)+1==0)=false:=(by rw [beq_eq_false_iff_ne];omega);have j8:(((N+1:Nat):Int)==0)=false:=(by rw [beq_eq_false_iff_ne];omega);have m9:(n.k==6)=kb:=(by rw [Y];rfl);rw [<- Y] at b5;have c9:=aB (HX.out.below (lB O.out hB HX.out.s) O.out.size);have i4:=aB (c7.out.row O.out hB);clear Y q1 q2 q3 q4 q5 q7
           go_wp2_with fail
           refine (HN.out _).mono ?_;rintro e w3 ⟨rfl,rfl⟩;go_wp2
           go_loopw [47] (fun i wr=>∃ (k:Nat) (vk:Value) (Rk Pk:List Nod) (Z rk:Int),(k:Int)<=n.C/\i=.int .i64 k/\Hid (aN (aD (dU bG dI) (N+1) kb) k ([],(c2,r2))=some (Rk,(Z,rk)))/\Hid (Ck wr h vk Z rk)/\Hid (RdN B wr vk Rk)/\Hid ([]=Pk++Rk)/\Hid ((0<=Z/\Z<=1048576)/\(0<=rk/\rk<=1048576))/\Hid (w2.grownBy wr (some h))) (fun i _=>n.C.toNat - (intOf i).toNat)
           case atStart=>exact ⟨0,_,_,[],_,_,b1,rfl,rfl,K2,i4,rfl,d3,World.grownBy.refl _ _⟩
           case round=>
            obtain ⟨k,vk,Rk,Pk,Z,rk,m3,rfl,d1,KK,RK,EK,BK,GK⟩:=hrel;have m7:=(N2.out.row GK.out d7).c0
            by_cases n0:(k:Int)<n.C
            ·have h1:=aB (IH.out N (by omega) (by omega) kb vk Rk Z rk wr KK.out (c9.out.below (lB GK.out hB c9.out.s) GK.out.size) RK.out (fun q hq=>k0.out q (by rw [EK.out];exact List.mem_append_right _ hq)) (by have:=congrArg List.length EK.out;simp only [List.length_append] at this;have h9:=g6;omega) BK.out.1 BK.out.2)
             go_wp2_with fail
             refine h1.out.mono ?_;rintro e w4 ⟨b4,v4,R4,P4,c4,r4,rfl,k4,c8,d2,g4⟩
             have HS:Hid (aN (aD (dU bG dI) (N+1) kb) (k+1) ([],(c2,r2))=(if b4 then some (R4,(c4,r4)) else none)):=by
              unfold Hid;rw [qI,d1.out,Option.bind_some,c8]
             have K4:=aB k4;have h7:=aB d2;have G4:=aB (aS GK.out g4);clear k4 c8 d2 g4;cases b4 with
             | false=>
               have H:Hid (aD (dU bG dI) (N+1+1) n.mem (n::[],(c,r))=none):=by
                unfold Hid;rw [b5.out];exact aA2 _ (k+1) _ _ HS.out (by omega)
               go_wp2;go_ret;exact ⟨false,_,[],[],_,_,rfl,K4.out,H.out,fun e=>(by cases e),aS O.out G4.out⟩
             | true=>
               obtain ⟨d0,d4,d8,d5⟩:=h7.out rfl;have h6:=aB d0;have g5:Hid ([]=(Pk++P4)++R4):=(by unfold Hid;rw [List.append_assoc,<- d4];exact EK.out);have g9:Hid ((0<=c4/\c4<=1048576)/\(0<=r4/\r4<=1048576)):=⟨d8,d5⟩;clear d0 d4 d8 d5;go_wp2
               go_roundw
               case rel=>exact ⟨k+1,v4,R4,Pk++P4,c4,r4,by omega,by go_num,HS,K4,h6,g5,g9,G4⟩
               case measure=>simp [intOf];omega
            ·have h2:n.C.toNat=k:=by omega
             have H:Hid (aD (dU bG dI) (N+1+1) n.mem (n::[],(c,r))=some (Rk,(Z,rk))):=by
              unfold Hid;rw [b5.out,h2];exact d1.out
             go_wp2;go_ret;exact ⟨true,_,Rk,n::Pk,_,_,rfl,KK.out,H.out,fun _=>⟨RK.out,by rw [List.cons_append,<- EK.out],BK.out⟩,aS O.out GK.out⟩
         ·have HN:Hid (∀ w:World,Calls prog 112 #[.int .i64 n.k] w fun e w'=>e=.returned (.bool false)/\w=w'):=fun w=>by
           have:=iC n.k w;rw [decide_eq_false (show ¬ (n.k=5\/n.k=6) by omega)] at this;exact this
          have d6:n.C=0:=h0 (by omega)
          have H:Hid (aD (dU bG dI) (d+1) n.mem (n::[],(c,r))=some ([],(c2,r2))):=by
           unfold Hid;rw [HW.out,if_neg (fun hh=>h5 hh.1),d6];rfl
          have h3:=aB ((c7.out.row O.out hB));rw [d6] at q6;have i2:=aB d3
          go_wp2_with fail
          refine (HN.out _).mono ?_;rintro e w3 ⟨rfl,rfl⟩;go_wp2;refine wp_loop_rounds 1 ?_;rw [rounds_succ];go_wp2;go_ret;exact ⟨true,_,[],[n],_,_,rfl,K2.out,H.out,fun _=>⟨h3.out,rfl,i2.out⟩,O.out⟩
      ·have H:Hid (aD (dU bG dI) (d+1) mb (n::[],(c,r))=none):=by
        unfold Hid;simp only [aD];rw [if_pos a6]
       have n2:(n.mem != mb)=true:=(by simpa using a6);clear gS gA
       go_enter func79,ntmps79
       go_wp2;go_ret;exact ⟨false,_,[],[],_,_,rfl,K1.out,H.out,fun e=>(by cases e),M.out⟩
     ·have g6:R.length<=1048576:=(by omega);have c7:Hid (RdN B w (.slice (some ⟨b,off+8,none⟩) R.length (cap - 1)) R):=HV.out.tail (some ⟨b,off+8,none⟩) (cap - 1) (fun _=>rfl) ⟨by omega,by omega⟩;have gS:w.grownBy (w.setCell ⟨h,0,none⟩ (.slice (some ⟨b,off+8,none⟩) R.length (cap - 1))) (some h):=kN w ⟨h,0,none⟩ _;have gA:=World.grownBy_alloc (w.setCell ⟨h,0,none⟩ (.slice (some ⟨b,off+8,none⟩) R.length (cap - 1))) (Obj.cells #[.int .i64 n.k,.slice la n.L.length A,.bool n.mem,.slice ka n.key.length y,.slice xa n.X.length D,.slice ua n.U.length u,.int .i64 n.C,.slice ta n.tail.length E] 49) none;have G:∀ k,some h=some k->B<=k:=fun k e=>by cases e;exact hB
      have M:Hid (w.grownBy ((w.setCell ⟨h,0,none⟩ (.slice (some ⟨b,off+8,none⟩) R.length (cap - 1))).alloc (Obj.cells #[.int .i64 n.k,.slice la n.L.length A,.bool n.mem,.slice ka n.key.length y,.slice xa n.X.length D,.slice ua n.U.length u,.int .i64 n.C,.slice ta n.tail.length E] 49)) (some h)):=aS gS (eJ gA _);have K1:Hid (Ck ((w.setCell ⟨h,0,none⟩ (.slice (some ⟨b,off+8,none⟩) R.length (cap - 1))).alloc (Obj.cells #[.int .i64 n.k,.slice la n.L.length A,.bool n.mem,.slice ka n.key.length y,.slice xa n.X.length D,.slice ua n.U.length u,.int .i64 n.C,.slice ta n.tail.length E] 49)) h (.slice (some ⟨b,off+8,none⟩) R.length (cap - 1)) c r):=(HK.out.setN (.slice (some ⟨b,off+8,none⟩) R.length (cap - 1))).K gA;have N1:Hid (N8 ((w.setCell ⟨h,0,none⟩ (.slice (some ⟨b,off+8,none⟩) R.length (cap - 1))).alloc (Obj.cells #[.int .i64 n.k,.slice la n.L.length A,.bool n.mem,.slice ka n.key.length y,.slice xa n.X.length D,.slice ua n.U.length u,.int .i64 n.C,.slice ta n.tail.length E] 49)) w.heap.size n (.slice la n.L.length A) (.slice ka n.key.length y) (.slice xa n.X.length D) (.slice ua n.U.length u) (.slice ta n.tail.length E)):=⟨by simp [go_sem],by simp [go_sem],by simp [go_sem],by simp [go_sem],by simp [go_sem],by simp [go_sem],by simp [go_sem],by simp [go_sem]⟩
      by_cases a6:n.mem=mb
      ·subst a6
       have h8:=aB (uS h (.slice (some ⟨b,off+8,none⟩) R.length (cap - 1)) n (.slice la n.L.length A) (.slice ka n.key.length y) (.slice xa n.X.length D) (.slice ua n.U.length u) (.slice ta n.tail.length E) c r m B _ K1.out (HX.out.below (lB M.out hB HX.out.s) M.out.size) hB
        (S.out.rl.beside M.out G) (S.out.rk.beside M.out G) S.out.sk (S.out.rx.beside M.out G) S.out.sx (S.out.ru.beside M.out G) S.out.su (S.out.rt.beside M.out G) i7.out hr (by omega))
       have d7:w.heap.size≠h:=(by omega);clear gS gA
       go_enter func79,ntmps79
       go_wp2_with fail
       refine h8.out.mono ?_;rintro e w2 ⟨b2,c2,r2,rfl,k2,j,g2⟩;have K2:=aB k2;have O:=aB (aS M.out g2);have N2:=aB (N1.out.row g2 d7);clear k2 g2;obtain ⟨q0,q1,q2,q3,q4,q5,q6,q7⟩:=N2.out;cases b2 with
       | false=>
         have H:Hid (aD (dU bG dI) (d+1) n.mem (n::R,(c,r))=none):=by
          unfold Hid;simp only [aD,ne_eq,not_true_eq_false,if_false];rw [j];rfl
         clear j;go_wp2;go_ret;exact ⟨false,_,[],[],_,_,rfl,K2.out,H.out,fun e=>(by cases e),O.out⟩
       | true=>
         simp only [if_true] at j
         have HW:Hid (aD (dU bG dI) (d+1) n.mem (n::R,(c,r))=if 5<=n.k/\d=0 then none else aN (aD (dU bG dI) d (decide (n.k=6))) n.C.toNat (R,(c2,r2))):=by
          unfold Hid;simp only [aD,ne_eq,not_true_eq_false,if_false];rw [j];rfl
         obtain ⟨J,d3⟩:fJ bG dI n/\((0<=c2/\c2<=1048576)/\(0<=r2/\r2<=1048576)):=by
          rw [aCC] at j
          by_cases hh:fJ bG dI n/\nc n<=c/\nr n<=r
          ·rw [if_pos hh] at j;have:=oP n;have:=pC n;simp only [Option.some.injEq,Prod.mk.injEq] at j;exact ⟨hh.1,by omega,by omega⟩
          ·rw [if_neg hh] at j;cases j
         have k5:=J.1;have h0:n.k<5->n.C=0:=fun e=>(J.2.2.2.2.2.2.2.2.2.1 e).1;have b1:0<=n.C:=J.2.2.2.2.2.2.2.2.2.2;clear j J
         by_cases h5:5<=n.k
         ·have HN:Hid (∀ w:World,Calls prog 112 #[.int .i64 n.k] w fun e w'=>e=.returned (.bool true)/\w=w'):=fun w=>by
           have:=iC n.k w;rw [decide_eq_true (show n.k=5\/n.k=6 by omega)] at this;exact this
          by_cases c6:d=0
          ·subst c6;have H:Hid (aD (dU bG dI) (0+1) n.mem (n::R,(c,r))=none):=by unfold Hid;rw [HW.out,if_pos ⟨h5,rfl⟩]
           go_wp2_with fail
           refine (HN.out _).mono ?_;rintro e w3 ⟨rfl,rfl⟩;go_wp2;go_ret;exact ⟨false,_,[],[],_,_,rfl,K2.out,H.out,fun e=>(by cases e),O.out⟩
          ·have l6:¬ (d:Int)=0:=(by omega);have b5:Hid (aD (dU bG dI) (d+1) n.mem (n::R,(c,r))=aN (aD (dU bG dI) d (decide (n.k=6))) n.C.toNat (R,(c2,r2))):=(by unfold Hid;rw [HW.out,if_neg (fun hh=>c6 hh.2)]);obtain ⟨N,rfl⟩:∃ N,d=N+1:=⟨d - 1,by omega⟩;obtain ⟨kb,Y⟩:∃ kb,kb=decide (n.k=6):=⟨_,rfl⟩;have k9:((N:Int)+1==0)=false:=(by rw [beq_eq_false_iff_ne];omega);have j8:(((N+1:Nat):Int)==0)=false:=(by rw [beq_eq_false_iff_ne];omega);have m9:(n.k==6)=kb:=(by rw [Y];rfl);rw [<- Y] at b5;have c9:=aB (HX.out.below (lB O.out hB HX.out.s) O.out.size);have i4:=aB (c7.out.row O.out hB);clear Y q1 q2 q3 q4 q5 q7
           go_wp2_with fail
           refine (HN.out _).mono ?_;rintro e w3 ⟨rfl,rfl⟩;go_wp2
           go_loopw [47] (fun i wr=>∃ (k:Nat) (vk:Value) (Rk Pk:List Nod) (Z rk:Int),(k:Int)<=n.C/\i=.int .i64 k/\Hid (aN (aD (dU bG dI) (N+1) kb) k (R,(c2,r2))=some (Rk,(Z,rk)))/\Hid (Ck wr h vk Z rk)/\Hid (RdN B wr vk Rk)/\Hid (R=Pk++Rk)/\Hid ((0<=Z/\Z<=1048576)/\(0<=rk/\rk<=1048576))/\Hid (w2.grownBy wr (some h))) (fun i _=>n.C.toNat - (intOf i).toNat)
           case atStart=>exact ⟨0,_,_,[],_,_,b1,rfl,rfl,K2,i4,rfl,d3,World.grownBy.refl _ _⟩
           case round=>
            obtain ⟨k,vk,Rk,Pk,Z,rk,m3,rfl,d1,KK,RK,EK,BK,GK⟩:=hrel;have m7:=(N2.out.row GK.out d7).c0
            by_cases n0:(k:Int)<n.C
            ·have h1:=aB (IH.out N (by omega) (by omega) kb vk Rk Z rk wr KK.out (c9.out.below (lB GK.out hB c9.out.s) GK.out.size) RK.out (fun q hq=>k0.out q (by rw [EK.out];exact List.mem_append_right _ hq)) (by have:=congrArg List.length EK.out;simp only [List.length_append] at this;have h9:=g6;omega) BK.out.1 BK.out.2)
             go_wp2_with fail
             refine h1.out.mono ?_;rintro e w4 ⟨b4,v4,R4,P4,c4,r4,rfl,k4,c8,d2,g4⟩
             have HS:Hid (aN (aD (dU bG dI) (N+1) kb) (k+1) (R,(c2,r2))=(if b4 then some (R4,(c4,r4)) else none)):=by
              unfold Hid;rw [qI,d1.out,Option.bind_some,c8]
             have K4:=aB k4;have h7:=aB d2;have G4:=aB (aS GK.out g4);clear k4 c8 d2 g4;cases b4 with
             | false=>
               have H:Hid (aD (dU bG dI) (N+1+1) n.mem (n::R,(c,r))=none):=by
                unfold Hid;rw [b5.out];exact aA2 _ (k+1) _ _ HS.out (by omega)
               go_wp2;go_ret;exact ⟨false,_,[],[],_,_,rfl,K4.out,H.out,fun e=>(by cases e),aS O.out G4.out⟩
             | true=>
               obtain ⟨d0,d4,d8,d5⟩:=h7.out rfl;have h6:=aB d0;have g5:Hid (R=(Pk++P4)++R4):=(by unfold Hid;rw [List.append_assoc,<- d4];exact EK.out);have g9:Hid ((0<=c4/\c4<=1048576)/\(0<=r4/\r4<=1048576)):=⟨d8,d5⟩;clear d0 d4 d8 d5;go_wp2
               go_roundw
               case rel=>exact ⟨k+1,v4,R4,Pk++P4,c4,r4,by omega,by go_num,HS,K4,h6,g5,g9,G4⟩
               case measure=>simp [intOf];omega
            ·have h2:n.C.toNat=k:=by omega
             have H:Hid (aD (dU bG dI) (N+1+1) n.mem (n::R,(c,r))=some (Rk,(Z,rk))):=by
              unfold Hid;rw [b5.out,h2];exact d1.out
             go_wp2;go_ret;exact ⟨true,_,Rk,n::Pk,_,_,rfl,KK.out,H.out,fun _=>⟨RK.out,by rw [List.cons_append,<- EK.out],BK.out⟩,aS O.out GK.out⟩
         ·have HN:Hid (∀ w:World,Calls prog 112 #[.int .i64 n.k] w fun e w'=>e=.returned (.bool false)/\w=w'):=fun w=>by
           have:=iC n.k w;rw [decide_eq_false (show ¬ (n.k=5\/n.k=6) by omega)] at this;exact this
          have d6:n.C=0:=h0 (by omega)
          have H:Hid (aD (dU bG dI) (d+1) n.mem (n::R,(c,r))=some (R,(c2,r2))):=by
           unfold Hid;rw [HW.out,if_neg (fun hh=>h5 hh.1),d6];rfl
          have h3:=aB ((c7.out.row O.out hB));rw [d6] at q6;have i2:=aB d3
          go_wp2_with fail
          refine (HN.out _).mono ?_;rintro e w3 ⟨rfl,rfl⟩;go_wp2;refine wp_loop_rounds 1 ?_;rw [rounds_succ];go_wp2;go_ret;exact ⟨true,_,R,[n],_,_,rfl,K2.out,H.out,fun _=>⟨h3.out,rfl,i2.out⟩,O.out⟩
      ·have H:Hid (aD (dU bG dI) (d+1) mb (n::R,(c,r))=none):=by
        unfold Hid;simp only [aD];rw [if_pos a6]
       have n2:(n.mem != mb)=true:=(by simpa using a6);clear gS gA
       go_enter func79,ntmps79
       go_wp2;go_ret;exact ⟨false,_,[],[],_,_,rfl,K1.out,H.out,fun e=>(by cases e),M.out⟩
end Go.Proofs.YtgifkcpdihphlaaGreatDoor
