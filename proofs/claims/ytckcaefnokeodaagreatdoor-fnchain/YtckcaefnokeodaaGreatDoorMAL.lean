import Derived.Test.YtckcaefnokeodaaGreatDoorMAK
set_option maxHeartbeats 16000000
set_option maxRecDepth 100000
namespace Go.Proofs.YtckcaefnokeodaaGreatDoor
open Go.Proofs.Tryz Go.RowKit List World
theorem aAJ {σ:Type} (f:σ->Option σ) (k) (n:Nat) (s) (h:aN f k s=none) (A:k<=n):aN f n s=none:=by
 obtain ⟨j,rfl⟩:∃ j,n=k+j:=⟨n - k,by omega⟩;rw [sT,h];rfl
def aLS (R:List Nod):Prop:=∀ p∈R,zM p/\(-9223372036854775808<=p.C/\p.C<=9223372036854775807)
theorem RdN.row {B} {k:Nat} {w A v R} (h:RdN B w v R) (g:w.grownBy A (some k)) (D:B<=k):RdN B A v R:=h.beside g (fun j e=>by cases e;exact D)
theorem RdN.tail {B w} {b D cap:Nat} {n:Nod} {R:List Nod} (h:RdN B w (.slice (some ⟨b,D,none⟩) (n::R).length cap) (n::R)) (F:Option Addr) (A:Nat) (Y:R≠[]->F=some ⟨b,D+8,none⟩) (G:R.length<=A/\A<=maxLen):RdN B w (.slice F R.length A) R:=by
 obtain ⟨a,cp,M,h1,h2,hh⟩:=h;obtain ⟨b0,I,J,hb,E⟩:=hh (by simp);simp only [Value.slice.injEq] at M;rw [<- M.1] at J;cases J;refine ⟨F,A,rfl,G.1,G.2,fun h0=>⟨b,D+8,Y h0,hb,fun j p N=>?_⟩⟩;obtain ⟨x1,S,x3,Z,O,H⟩:=E (j+1) p (by simpa using N);refine ⟨x1,S,x3,Z,O,?_⟩;have:D+(j+1)*8=D+8+j*8:=by omega
 rw [this] at H;exact H
def aKN (w0:World) (h B:Nat) (R:List Nod) (res:Option (List Nod × (Int × Int))) (e:Ending) (w':World):Prop:=
 ∃ (b:Bool) (v':Value) (R' P:List Nod) (c' r':Int),e=.returned (.bool b)/\Ck w' h v' c' r'/\res=(if b then some (R',(c',r')) else none)/\(b=true->RdN B w' v' R'/\R=P++R'/\(0<=c'/\c'<=1048576)/\(0<=r'/\r'<=1048576))/\w0.grownBy w' (some h)
theorem aBV (h B:Nat) (m) (hB:B<=h):∀ (d:Nat),d<=200->∀ (mb:Bool) (v:Value) (R:List Nod) (c r:Int) (w:World),Ck w h v c r->Cx w B m->RdN B w v R->aLS R->R.length<=1048576->(0<=c/\c<=1048576)->(0<=r/\r<=1048576)->
  Calls prog 52 #[.pointer (some ⟨h,0,none⟩),.bool mb,.int .i64 d] w (aKN w h B R (aE (dV bH dG) (d+1) mb (R,(c,r)))):=by
 intro d
 induction d using Nat.strongRecOn with
 | ind d ih=>
   intro hd mb v R c r w hk hx hv ho hn hc hr;have a0:=hk.n;have f0:=hk.fn;have o4:=hk.lt;obtain ⟨a,N,j9,m6,o7,b0⟩:=id hv;cases R with
   | nil=>
     subst j9;have HK:=aB hk;clear hk hv b0 ih
     go_enter func52,ntmps52
     go_wp2;go_ret;exact ⟨false,_,[],[],_,_,rfl,HK.out,rfl,fun e=>(by cases e),grownBy.refl _ _⟩
   | cons n R=>
     obtain ⟨b,D,ha,o2,i9⟩:=b0 (by simp);obtain ⟨lv,kv,xv,uv,tv,hp⟩:=i9 0 n (by simp);subst j9 ha;have z0:=hp.k;have z1:=hp.L;have z2:=hp.mem;have z3:=hp.key;have z4:=hp.X;have z5:=hp.U;have z6:=hp.C;have z7:=hp.tail;simp only [Nat.zero_mul,Nat.add_zero] at z0 z1 z2 z3 z4 z5 z6 z7;obtain ⟨la,I,m4,_,_⟩:=hp.rl.sl;obtain ⟨ta,G,l2,_,_⟩:=hp.rt.sl;obtain ⟨ka,E,l8,_,_⟩:=id hp.sk;obtain ⟨xa,H,l3,_,_⟩:=id hp.sx;obtain ⟨ua,F,k9,_,_⟩:=id hp.su;obtain ⟨i3,o9⟩:=ho n (by simp);have k3:=aB i3;have k1:Hid (aLS R):=fun q hq=>ho q (by simp [hq]);have HV:=aB hv;have HP:=aB hp;have HK:=aB hk;have HX:=aB hx;have IH:=aB ih;simp only [length_cons] at m6 hn;subst m4 l2 l8 l3 k9;clear hk hx hv ho hp i9 b0 ih i3
     by_cases n4:N=1
     .obtain rfl:R=[]:=eq_nil_of_length_eq_zero (by omega);have h4:([]:List Nod).length<=1048576:=(by simp);have c9:Hid (RdN B w (.slice (some ⟨b,D,none⟩) 0 0) []):=HV.out.tail (some ⟨b,D,none⟩) 0 (fun h=>absurd rfl h) ⟨by simp,by unfold maxLen;omega⟩;have gS:w.grownBy (w.setCell ⟨h,0,none⟩ (.slice (some ⟨b,D,none⟩) 0 0)) (some h):=lH w ⟨h,0,none⟩ _;have gA:=grownBy_alloc (w.setCell ⟨h,0,none⟩ (.slice (some ⟨b,D,none⟩) 0 0)) (Obj.cells #[.int .i64 n.k,.slice la n.L.length I,.bool n.mem,.slice ka n.key.length E,.slice xa n.X.length H,.slice ua n.U.length F,.int .i64 n.C,.slice ta n.tail.length G] 49) none;have J:∀ k,some h=some k->B<=k:=fun k e=>by cases e;exact hB
      have S:Hid (w.grownBy ((w.setCell ⟨h,0,none⟩ (.slice (some ⟨b,D,none⟩) 0 0)).alloc (Obj.cells #[.int .i64 n.k,.slice la n.L.length I,.bool n.mem,.slice ka n.key.length E,.slice xa n.X.length H,.slice ua n.U.length F,.int .i64 n.C,.slice ta n.tail.length G] 49)) (some h)):=aT gS (eJ gA _);have K1:Hid (Ck ((w.setCell ⟨h,0,none⟩ (.slice (some ⟨b,D,none⟩) 0 0)).alloc (Obj.cells #[.int .i64 n.k,.slice la n.L.length I,.bool n.mem,.slice ka n.key.length E,.slice xa n.X.length H,.slice ua n.U.length F,.int .i64 n.C,.slice ta n.tail.length G] 49)) h (.slice (some ⟨b,D,none⟩) 0 0) c r):=(HK.out.setN (.slice (some ⟨b,D,none⟩) 0 0)).K gA;have N1:Hid (N8 ((w.setCell ⟨h,0,none⟩ (.slice (some ⟨b,D,none⟩) 0 0)).alloc (Obj.cells #[.int .i64 n.k,.slice la n.L.length I,.bool n.mem,.slice ka n.key.length E,.slice xa n.X.length H,.slice ua n.U.length F,.int .i64 n.C,.slice ta n.tail.length G] 49)) w.heap.size n (.slice la n.L.length I) (.slice ka n.key.length E) (.slice xa n.X.length H) (.slice ua n.U.length F) (.slice ta n.tail.length G)):=⟨by simp [go_sem],by simp [go_sem],by simp [go_sem],by simp [go_sem],by simp [go_sem],by simp [go_sem],by simp [go_sem],by simp [go_sem]⟩
      by_cases a9:n.mem=mb
      .subst a9
       have g6:=aB (vO h (.slice (some ⟨b,D,none⟩) 0 0) n (.slice la n.L.length I) (.slice ka n.key.length E) (.slice xa n.X.length H) (.slice ua n.U.length F) (.slice ta n.tail.length G) c r m B _ K1.out (HX.out.below (lX S.out hB HX.out.s) S.out.size) hB
        (HP.out.rl.beside S.out J) (HP.out.rk.beside S.out J) HP.out.sk (HP.out.rx.beside S.out J) HP.out.sx (HP.out.ru.beside S.out J) HP.out.su (HP.out.rt.beside S.out J) k3.out hr (by omega))
       have d1:w.heap.size≠h:=(by omega);clear gS gA
       go_enter func52,ntmps52
       go_wp2_with fail
       refine g6.out.mono ?_;rintro e w2 ⟨b2,c2,r2,rfl,k2,A,g2⟩;have K2:=aB k2;have Y:=aB (aT S.out g2);have N2:=aB (N1.out.row g2 d1);clear k2 g2;obtain ⟨q0,q1,q2,q3,q4,q5,q6,q7⟩:=N2.out;cases b2 with
       | false=>
         have M:Hid (aE (dV bH dG) (d+1) n.mem (n::[],(c,r))=none):=by
          unfold Hid;simp only [aE,ne_eq,not_true_eq_false,if_false];rw [A];rfl
         clear A;go_wp2;go_ret;exact ⟨false,_,[],[],_,_,rfl,K2.out,M.out,fun e=>(by cases e),Y.out⟩
       | true=>
         simp only [if_true] at A
         have HW:Hid (aE (dV bH dG) (d+1) n.mem (n::[],(c,r))=if 5<=n.k/\d=0 then none else aN (aE (dV bH dG) d (decide (n.k=6))) n.C.toNat ([],(c2,r2))):=by
          unfold Hid;simp only [aE,ne_eq,not_true_eq_false,if_false];rw [A];rfl
         obtain ⟨Z,c5⟩:fS bH dG n/\((0<=c2/\c2<=1048576)/\(0<=r2/\r2<=1048576)):=by
          rw [aDe] at A
          by_cases hh:fS bH dG n/\nc n<=c/\nr n<=r
          .rw [if_pos hh] at A;have:=sX n;have:=tB n;simp only [Option.some.injEq,Prod.mk.injEq] at A;exact ⟨hh.1,by omega,by omega⟩
          .rw [if_neg hh] at A;cases A
         have k6:=Z.1;have h3:n.k<5->n.C=0:=fun e=>(Z.2.2.2.2.2.2.2.2.2.1 e).1;have a5:0<=n.C:=Z.2.2.2.2.2.2.2.2.2.2;clear A Z
         by_cases h5:5<=n.k
         .have HN:Hid (∀ w:World,Calls prog 93 #[.int .i64 n.k] w fun e w'=>e=.returned (.bool true)/\w=w'):=fun w=>by
           have:=iG n.k w;rw [decide_eq_true (show n.k=5\/n.k=6 by omega)] at this;exact this
          by_cases d9:d=0
          .subst d9;have M:Hid (aE (dV bH dG) (0+1) n.mem (n::[],(c,r))=none):=by unfold Hid;rw [HW.out,if_pos ⟨h5,rfl⟩]
           go_wp2_with fail
           refine (HN.out _).mono ?_;rintro e w3 ⟨rfl,rfl⟩;go_wp2;go_ret;exact ⟨false,_,[],[],_,_,rfl,K2.out,M.out,fun e=>(by cases e),Y.out⟩
          .have n2:¬ (d:Int)=0:=(by omega);have b3:Hid (aE (dV bH dG) (d+1) n.mem (n::[],(c,r))=aN (aE (dV bH dG) d (decide (n.k=6))) n.C.toNat ([],(c2,r2))):=(by unfold Hid;rw [HW.out,if_neg (fun hh=>d9 hh.2)]);obtain ⟨O,rfl⟩:∃ O,d=O+1:=⟨d - 1,by omega⟩;obtain ⟨kb,a3⟩:∃ kb,kb=decide (n.k=6):=⟨_,rfl⟩;have k5:((O:Int)+1==0)=false:=(by rw [beq_eq_false_iff_ne];omega);have j7:(((O+1:Nat):Int)==0)=false:=(by rw [beq_eq_false_iff_ne];omega);have m9:(n.k==6)=kb:=(by rw [a3];rfl);rw [<- a3] at b3;have d6:=aB (HX.out.below (lX Y.out hB HX.out.s) Y.out.size);have g0:=aB (c9.out.row Y.out hB);clear a3 q1 q2 q3 q4 q5 q7
           go_wp2_with fail
           refine (HN.out _).mono ?_;rintro e w3 ⟨rfl,rfl⟩;go_wp2
           go_loopw [47] (fun i wr=>∃ (k:Nat) (vk:Value) (Rk Pk:List Nod) (ck rk:Int),(k:Int)<=n.C/\i=.int .i64 k/\Hid (aN (aE (dV bH dG) (O+1) kb) k ([],(c2,r2))=some (Rk,(ck,rk)))/\Hid (Ck wr h vk ck rk)/\Hid (RdN B wr vk Rk)/\Hid ([]=Pk++Rk)/\Hid ((0<=ck/\ck<=1048576)/\(0<=rk/\rk<=1048576))/\Hid (w2.grownBy wr (some h))) (fun i _=>n.C.toNat - (intOf i).toNat)
           case atStart=>exact ⟨0,_,_,[],_,_,a5,rfl,rfl,K2,g0,rfl,c5,grownBy.refl _ _⟩
           case round=>
            obtain ⟨k,vk,Rk,Pk,ck,rk,l1,rfl,d3,KK,RK,EK,BK,GK⟩:=hrel;have m0:=(N2.out.row GK.out d1).c0
            by_cases m5:(k:Int)<n.C
            .have h1:=aB (IH.out O (by omega) (by omega) kb vk Rk ck rk wr KK.out (d6.out.below (lX GK.out hB d6.out.s) GK.out.size) RK.out (fun q hq=>k1.out q (by rw [EK.out];exact mem_append_right _ hq)) (by have:=congrArg List.length EK.out;simp only [length_append] at this;have h9:=h4;omega) BK.out.1 BK.out.2)
             go_wp2_with fail
             refine h1.out.mono ?_;rintro e w4 ⟨b4,v4,R4,P4,c4,r4,rfl,k4,d2,c7,g4⟩
             have HS:Hid (aN (aE (dV bH dG) (O+1) kb) (k+1) ([],(c2,r2))=(if b4 then some (R4,(c4,r4)) else none)):=by
              unfold Hid;rw [qD,d3.out,Option.bind_some,d2]
             have K4:=aB k4;have g8:=aB c7;have G4:=aB (aT GK.out g4);clear k4 d2 c7 g4;cases b4 with
             | false=>
               have M:Hid (aE (dV bH dG) (O+1+1) n.mem (n::[],(c,r))=none):=by
                unfold Hid;rw [b3.out];exact aAJ _ (k+1) _ _ HS.out (by omega)
               go_wp2;go_ret;exact ⟨false,_,[],[],_,_,rfl,K4.out,M.out,fun e=>(by cases e),aT Y.out G4.out⟩
             | true=>
               obtain ⟨c8,d4,d7,d5⟩:=g8.out rfl;have h8:=aB c8;have g1:Hid ([]=(Pk++P4)++R4):=(by unfold Hid;rw [append_assoc,<- d4];exact EK.out);have h6:Hid ((0<=c4/\c4<=1048576)/\(0<=r4/\r4<=1048576)):=⟨d7,d5⟩;clear c8 d4 d7 d5;go_wp2
               go_roundw
               case rel=>exact ⟨k+1,v4,R4,Pk++P4,c4,r4,by omega,by go_num,HS,K4,h8,g1,h6,G4⟩
               case measure=>simp [intOf];omega
            .have i1:n.C.toNat=k:=by omega
             have M:Hid (aE (dV bH dG) (O+1+1) n.mem (n::[],(c,r))=some (Rk,(ck,rk))):=by
              unfold Hid;rw [b3.out,i1];exact d3.out
             go_wp2;go_ret;exact ⟨true,_,Rk,n::Pk,_,_,rfl,KK.out,M.out,fun _=>⟨RK.out,by rw [cons_append,<- EK.out],BK.out⟩,aT Y.out GK.out⟩
         .have HN:Hid (∀ w:World,Calls prog 93 #[.int .i64 n.k] w fun e w'=>e=.returned (.bool false)/\w=w'):=fun w=>by
           have:=iG n.k w;rw [decide_eq_false (show ¬ (n.k=5\/n.k=6) by omega)] at this;exact this
          have d0:n.C=0:=h3 (by omega)
          have M:Hid (aE (dV bH dG) (d+1) n.mem (n::[],(c,r))=some ([],(c2,r2))):=by
           unfold Hid;rw [HW.out,if_neg (fun hh=>h5 hh.1),d0];rfl
          have i2:=aB ((c9.out.row Y.out hB));rw [d0] at q6;have h2:=aB c5
          go_wp2_with fail
          refine (HN.out _).mono ?_;rintro e w3 ⟨rfl,rfl⟩;go_wp2;refine wp_loop_rounds 1 ?_;rw [rounds_succ];go_wp2;go_ret;exact ⟨true,_,[],[n],_,_,rfl,K2.out,M.out,fun _=>⟨i2.out,rfl,h2.out⟩,Y.out⟩
      .have M:Hid (aE (dV bH dG) (d+1) mb (n::[],(c,r))=none):=by
        unfold Hid;simp only [aE];rw [if_pos a9]
       have m1:(n.mem != mb)=true:=(by simpa using a9);clear gS gA
       go_enter func52,ntmps52
       go_wp2;go_ret;exact ⟨false,_,[],[],_,_,rfl,K1.out,M.out,fun e=>(by cases e),S.out⟩
     .have h4:R.length<=1048576:=(by omega);have c9:Hid (RdN B w (.slice (some ⟨b,D+8,none⟩) R.length (N - 1)) R):=HV.out.tail (some ⟨b,D+8,none⟩) (N - 1) (fun _=>rfl) ⟨by omega,by omega⟩;have gS:w.grownBy (w.setCell ⟨h,0,none⟩ (.slice (some ⟨b,D+8,none⟩) R.length (N - 1))) (some h):=lH w ⟨h,0,none⟩ _;have gA:=grownBy_alloc (w.setCell ⟨h,0,none⟩ (.slice (some ⟨b,D+8,none⟩) R.length (N - 1))) (Obj.cells #[.int .i64 n.k,.slice la n.L.length I,.bool n.mem,.slice ka n.key.length E,.slice xa n.X.length H,.slice ua n.U.length F,.int .i64 n.C,.slice ta n.tail.length G] 49) none;have J:∀ k,some h=some k->B<=k:=fun k e=>by cases e;exact hB
      have S:Hid (w.grownBy ((w.setCell ⟨h,0,none⟩ (.slice (some ⟨b,D+8,none⟩) R.length (N - 1))).alloc (Obj.cells #[.int .i64 n.k,.slice la n.L.length I,.bool n.mem,.slice ka n.key.length E,.slice xa n.X.length H,.slice ua n.U.length F,.int .i64 n.C,.slice ta n.tail.length G] 49)) (some h)):=aT gS (eJ gA _);have K1:Hid (Ck ((w.setCell ⟨h,0,none⟩ (.slice (some ⟨b,D+8,none⟩) R.length (N - 1))).alloc (Obj.cells #[.int .i64 n.k,.slice la n.L.length I,.bool n.mem,.slice ka n.key.length E,.slice xa n.X.length H,.slice ua n.U.length F,.int .i64 n.C,.slice ta n.tail.length G] 49)) h (.slice (some ⟨b,D+8,none⟩) R.length (N - 1)) c r):=(HK.out.setN (.slice (some ⟨b,D+8,none⟩) R.length (N - 1))).K gA;have N1:Hid (N8 ((w.setCell ⟨h,0,none⟩ (.slice (some ⟨b,D+8,none⟩) R.length (N - 1))).alloc (Obj.cells #[.int .i64 n.k,.slice la n.L.length I,.bool n.mem,.slice ka n.key.length E,.slice xa n.X.length H,.slice ua n.U.length F,.int .i64 n.C,.slice ta n.tail.length G] 49)) w.heap.size n (.slice la n.L.length I) (.slice ka n.key.length E) (.slice xa n.X.length H) (.slice ua n.U.length F) (.slice ta n.tail.length G)):=⟨by simp [go_sem],by simp [go_sem],by simp [go_sem],by simp [go_sem],by simp [go_sem],by simp [go_sem],by simp [go_sem],by simp [go_sem]⟩
      by_cases a9:n.mem=mb
      .subst a9
       have g6:=aB (vO h (.slice (some ⟨b,D+8,none⟩) R.length (N - 1)) n (.slice la n.L.length I) (.slice ka n.key.length E) (.slice xa n.X.length H) (.slice ua n.U.length F) (.slice ta n.tail.length G) c r m B _ K1.out (HX.out.below (lX S.out hB HX.out.s) S.out.size) hB
        (HP.out.rl.beside S.out J) (HP.out.rk.beside S.out J) HP.out.sk (HP.out.rx.beside S.out J) HP.out.sx (HP.out.ru.beside S.out J) HP.out.su (HP.out.rt.beside S.out J) k3.out hr (by omega))
       have d1:w.heap.size≠h:=(by omega);clear gS gA
       go_enter func52,ntmps52
       go_wp2_with fail
       refine g6.out.mono ?_;rintro e w2 ⟨b2,c2,r2,rfl,k2,A,g2⟩;have K2:=aB k2;have Y:=aB (aT S.out g2);have N2:=aB (N1.out.row g2 d1);clear k2 g2;obtain ⟨q0,q1,q2,q3,q4,q5,q6,q7⟩:=N2.out;cases b2 with
       | false=>
         have M:Hid (aE (dV bH dG) (d+1) n.mem (n::R,(c,r))=none):=by
          unfold Hid;simp only [aE,ne_eq,not_true_eq_false,if_false];rw [A];rfl
         clear A;go_wp2;go_ret;exact ⟨false,_,[],[],_,_,rfl,K2.out,M.out,fun e=>(by cases e),Y.out⟩
       | true=>
         simp only [if_true] at A
         have HW:Hid (aE (dV bH dG) (d+1) n.mem (n::R,(c,r))=if 5<=n.k/\d=0 then none else aN (aE (dV bH dG) d (decide (n.k=6))) n.C.toNat (R,(c2,r2))):=by
          unfold Hid;simp only [aE,ne_eq,not_true_eq_false,if_false];rw [A];rfl
         obtain ⟨Z,c5⟩:fS bH dG n/\((0<=c2/\c2<=1048576)/\(0<=r2/\r2<=1048576)):=by
          rw [aDe] at A
          by_cases hh:fS bH dG n/\nc n<=c/\nr n<=r
          .rw [if_pos hh] at A;have:=sX n;have:=tB n;simp only [Option.some.injEq,Prod.mk.injEq] at A;exact ⟨hh.1,by omega,by omega⟩
          .rw [if_neg hh] at A;cases A
         have k6:=Z.1;have h3:n.k<5->n.C=0:=fun e=>(Z.2.2.2.2.2.2.2.2.2.1 e).1;have a5:0<=n.C:=Z.2.2.2.2.2.2.2.2.2.2;clear A Z
         by_cases h5:5<=n.k
         .have HN:Hid (∀ w:World,Calls prog 93 #[.int .i64 n.k] w fun e w'=>e=.returned (.bool true)/\w=w'):=fun w=>by
           have:=iG n.k w;rw [decide_eq_true (show n.k=5\/n.k=6 by omega)] at this;exact this
          by_cases d9:d=0
          .subst d9;have M:Hid (aE (dV bH dG) (0+1) n.mem (n::R,(c,r))=none):=by unfold Hid;rw [HW.out,if_pos ⟨h5,rfl⟩]
           go_wp2_with fail
           refine (HN.out _).mono ?_;rintro e w3 ⟨rfl,rfl⟩;go_wp2;go_ret;exact ⟨false,_,[],[],_,_,rfl,K2.out,M.out,fun e=>(by cases e),Y.out⟩
          .have n2:¬ (d:Int)=0:=(by omega);have b3:Hid (aE (dV bH dG) (d+1) n.mem (n::R,(c,r))=aN (aE (dV bH dG) d (decide (n.k=6))) n.C.toNat (R,(c2,r2))):=(by unfold Hid;rw [HW.out,if_neg (fun hh=>d9 hh.2)]);obtain ⟨O,rfl⟩:∃ O,d=O+1:=⟨d - 1,by omega⟩;obtain ⟨kb,a3⟩:∃ kb,kb=decide (n.k=6):=⟨_,rfl⟩;have k5:((O:Int)+1==0)=false:=(by rw [beq_eq_false_iff_ne];omega);have j7:(((O+1:Nat):Int)==0)=false:=(by rw [beq_eq_false_iff_ne];omega);have m9:(n.k==6)=kb:=(by rw [a3];rfl);rw [<- a3] at b3;have d6:=aB (HX.out.below (lX Y.out hB HX.out.s) Y.out.size);have g0:=aB (c9.out.row Y.out hB);clear a3 q1 q2 q3 q4 q5 q7
           go_wp2_with fail
           refine (HN.out _).mono ?_;rintro e w3 ⟨rfl,rfl⟩;go_wp2
           go_loopw [47] (fun i wr=>∃ (k:Nat) (vk:Value) (Rk Pk:List Nod) (ck rk:Int),(k:Int)<=n.C/\i=.int .i64 k/\Hid (aN (aE (dV bH dG) (O+1) kb) k (R,(c2,r2))=some (Rk,(ck,rk)))/\Hid (Ck wr h vk ck rk)/\Hid (RdN B wr vk Rk)/\Hid (R=Pk++Rk)/\Hid ((0<=ck/\ck<=1048576)/\(0<=rk/\rk<=1048576))/\Hid (w2.grownBy wr (some h))) (fun i _=>n.C.toNat - (intOf i).toNat)
           case atStart=>exact ⟨0,_,_,[],_,_,a5,rfl,rfl,K2,g0,rfl,c5,grownBy.refl _ _⟩
           case round=>
            obtain ⟨k,vk,Rk,Pk,ck,rk,l1,rfl,d3,KK,RK,EK,BK,GK⟩:=hrel;have m0:=(N2.out.row GK.out d1).c0
            by_cases m5:(k:Int)<n.C
            .have h1:=aB (IH.out O (by omega) (by omega) kb vk Rk ck rk wr KK.out (d6.out.below (lX GK.out hB d6.out.s) GK.out.size) RK.out (fun q hq=>k1.out q (by rw [EK.out];exact mem_append_right _ hq)) (by have:=congrArg List.length EK.out;simp only [length_append] at this;have h9:=h4;omega) BK.out.1 BK.out.2)
             go_wp2_with fail
             refine h1.out.mono ?_;rintro e w4 ⟨b4,v4,R4,P4,c4,r4,rfl,k4,d2,c7,g4⟩
             have HS:Hid (aN (aE (dV bH dG) (O+1) kb) (k+1) (R,(c2,r2))=(if b4 then some (R4,(c4,r4)) else none)):=by
              unfold Hid;rw [qD,d3.out,Option.bind_some,d2]
             have K4:=aB k4;have g8:=aB c7;have G4:=aB (aT GK.out g4);clear k4 d2 c7 g4;cases b4 with
             | false=>
               have M:Hid (aE (dV bH dG) (O+1+1) n.mem (n::R,(c,r))=none):=by
                unfold Hid;rw [b3.out];exact aAJ _ (k+1) _ _ HS.out (by omega)
               go_wp2;go_ret;exact ⟨false,_,[],[],_,_,rfl,K4.out,M.out,fun e=>(by cases e),aT Y.out G4.out⟩
             | true=>
               obtain ⟨c8,d4,d7,d5⟩:=g8.out rfl;have h8:=aB c8;have g1:Hid (R=(Pk++P4)++R4):=(by unfold Hid;rw [append_assoc,<- d4];exact EK.out);have h6:Hid ((0<=c4/\c4<=1048576)/\(0<=r4/\r4<=1048576)):=⟨d7,d5⟩;clear c8 d4 d7 d5;go_wp2
               go_roundw
               case rel=>exact ⟨k+1,v4,R4,Pk++P4,c4,r4,by omega,by go_num,HS,K4,h8,g1,h6,G4⟩
               case measure=>simp [intOf];omega
            .have i1:n.C.toNat=k:=by omega
             have M:Hid (aE (dV bH dG) (O+1+1) n.mem (n::R,(c,r))=some (Rk,(ck,rk))):=by
              unfold Hid;rw [b3.out,i1];exact d3.out
             go_wp2;go_ret;exact ⟨true,_,Rk,n::Pk,_,_,rfl,KK.out,M.out,fun _=>⟨RK.out,by rw [cons_append,<- EK.out],BK.out⟩,aT Y.out GK.out⟩
         .have HN:Hid (∀ w:World,Calls prog 93 #[.int .i64 n.k] w fun e w'=>e=.returned (.bool false)/\w=w'):=fun w=>by
           have:=iG n.k w;rw [decide_eq_false (show ¬ (n.k=5\/n.k=6) by omega)] at this;exact this
          have d0:n.C=0:=h3 (by omega)
          have M:Hid (aE (dV bH dG) (d+1) n.mem (n::R,(c,r))=some (R,(c2,r2))):=by
           unfold Hid;rw [HW.out,if_neg (fun hh=>h5 hh.1),d0];rfl
          have i2:=aB ((c9.out.row Y.out hB));rw [d0] at q6;have h2:=aB c5
          go_wp2_with fail
          refine (HN.out _).mono ?_;rintro e w3 ⟨rfl,rfl⟩;go_wp2;refine wp_loop_rounds 1 ?_;rw [rounds_succ];go_wp2;go_ret;exact ⟨true,_,R,[n],_,_,rfl,K2.out,M.out,fun _=>⟨i2.out,rfl,h2.out⟩,Y.out⟩
      .have M:Hid (aE (dV bH dG) (d+1) mb (n::R,(c,r))=none):=by
        unfold Hid;simp only [aE];rw [if_pos a9]
       have m1:(n.mem != mb)=true:=(by simpa using a9);clear gS gA
       go_enter func52,ntmps52
       go_wp2;go_ret;exact ⟨false,_,[],[],_,_,rfl,K1.out,M.out,fun e=>(by cases e),S.out⟩
structure aE4 (t:Tre):Prop where
 n:aLS t.N
 l:t.N.length<=1048576
 t:t.tail.length<=1048576/\zI t.tail
noncomputable def cZ (t:Tre):Bool:=
 decide (t.N.length<=4000)&&(match aE (dV bH dG) 201 false (t.N,(4000,100000)) with
  | some ([],s)=>(mW bH t.tail s).isSome
  | _=>false)
theorem zH {a:World} {b c} {h:Nat} (g:a.grownBy b none) (k:b.grownBy c (some h)) (D:a.heap.size<=h):a.grownBy c none:=
 ⟨k.os.trans g.os,k.tape.trans g.tape,k.output.trans g.output,Nat.le_trans g.size k.size,fun i A _=>(k.block i (Nat.lt_of_lt_of_le A g.size) (by simp only [ne_eq,Option.some.injEq];omega)).trans (g.block i A (by simp))⟩
theorem xC (nv tv t) (m:Int) (w:World) (hv:eV w.heap.size w nv tv t) (ho:aE4 t) (hT:Tab w) (hM:w.cell? ⟨1,0,none⟩=some (.int .i64 m)) :
  Calls prog 21 #[.agg #[nv,tv]] w fun e w'=>e=.returned (.bool (cZ t))/\w.grownBy w' none:=by
 obtain ⟨O,M⟩:=hv;obtain ⟨na,G,b4,_⟩:=id O;obtain ⟨ta,D,b6,_⟩:=id M;have b3:2<=w.heap.size:=block_lt_of_cell? w _ hM;have HN:=aB O;have HT:=aB M;have HO:=aB ho;have HX:Hid (Cx w w.heap.size m):=⟨hT,hM,b3,Nat.le_refl _⟩;have hl:=ho.l;subst b4 b6;clear O M hT hM ho
 by_cases c8:4000<t.N.length
 .have Z:Hid (cZ t=false):=by unfold Hid cZ;rw [decide_eq_false (by omega)];rfl
  go_enter func21,ntmps21
  go_wp2;go_ret;exact ⟨by rw [Z.out];rfl,gWA⟩
 .have b2:t.N.length<=4000:=by omega
  go_enter func21,ntmps21
  go_wp2_with fail
  obtain ⟨W1,F⟩:∃ W1,W1=w.alloc (Obj.cells #[Value.slice na t.N.length G,Value.slice ta t.tail.length D] 26):=⟨_,rfl⟩;obtain ⟨I,E⟩:∃ I,I=W1.alloc (Obj.cells #[Value.slice na t.N.length G,Value.int IntKind.i64 4000,Value.int IntKind.i64 100000] 104):=⟨_,rfl⟩;have J:w.grownBy I none:=(by rw [E,F];exact aA gWA gWA);have s2:I.heap.size=w.heap.size+2:=by rw [E,F];simp
  have hK:Ck I (w.heap.size+1) (.slice na t.N.length G) 4000 100000:=by
   rw [E,F];exact ⟨by simp [go_sem],by simp [go_sem],by simp [go_sem],by simp [go_sem],by simp [go_sem],by simp [go_sem]⟩
  have d1:I.cell? ⟨w.heap.size,1,none⟩=some (.slice ta t.tail.length D):=(by rw [E,F];simp [go_sem]);rw [<- F,<- E];clear E F;refine (aBV (w.heap.size+1) w.heap.size m (by omega) 200 (Nat.le_refl _) false _ t.N 4000 100000 I hK (HX.out.below ((aV J).mono (Nat.le_refl _)) (by omega)) (HN.out.K J) HO.out.n HO.out.l (by omega) (by omega)).mono ?_;rintro e w3 ⟨b,v3,R3,P3,c3,r3,rfl,k3,h,A,g3⟩;have d3:w3.cell? ⟨w.heap.size,1,none⟩=some (.slice ta t.tail.length D):=g3.cell d1 (by simp);have S:=aB (zH J g3 (by omega));cases b with
  | false=>
    have Z:Hid (cZ t=false):=(by unfold Hid cZ;rw [h,Bool.and_eq_false_iff];exact .inr rfl);clear A h k3 g3;go_wp2;go_ret;exact ⟨by rw [Z.out];rfl,S.out⟩
  | true=>
    obtain ⟨a0,f0,d8,a7⟩:=A rfl;obtain ⟨a3,a1,Y,_⟩:=id a0;have z0:=k3.n;cases R3 with
    | cons n R=>
      have Z:Hid (cZ t=false):=(by unfold Hid cZ;rw [h,Bool.and_eq_false_iff];exact .inr rfl);have b5:((n::R).length:Int)≠0:=(by simp only [length_cons];omega);have d6:(((n::R).length:Int)==0)=false:=(by simpa using b5);subst Y;generalize (n::R).length=L at *;clear A h k3 g3;go_wp2;go_ret;exact ⟨by rw [Z.out];rfl,S.out⟩
    | nil=>
      subst Y;have a8:=aB (fQ (w.heap.size+1) (.slice a3 0 a1) (.slice ta t.tail.length D) t.tail c3 r3 m w.heap.size w3 k3 (HX.out.below ((aV S.out).mono (Nat.le_refl _)) S.out.size) (HT.out.K S.out) (by omega) HO.out.t.1 HO.out.t.2 a7 (by omega));have a9:Hid (cZ t=(mW bH t.tail (c3,r3)).isSome):=(by unfold Hid cZ;rw [h,decide_eq_true b2];rfl);clear A h k3 g3 a0
      go_wp2_with fail
      refine a8.out.mono ?_;rintro e w4 ⟨b,c4,r4,rfl,k4,H,g4⟩;have HB:Hid (cZ t=b):=(by unfold Hid;rw [a9.out,H];cases b<;>rfl);have G4:=aB (zH S.out g4 (by omega));clear H k4 g4;go_wp2;go_ret;exact ⟨by rw [HB.out];rfl,G4.out⟩
end Go.Proofs.YtckcaefnokeodaaGreatDoor
