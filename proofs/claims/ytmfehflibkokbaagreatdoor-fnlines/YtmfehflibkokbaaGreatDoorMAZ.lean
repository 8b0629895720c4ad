import Derived.Test.YtmfehflibkokbaaGreatDoorMAV
import Derived.Test.YtmfehflibkokbaaGreatDoorMAY
set_option maxHeartbeats 16000000
set_option maxRecDepth 100000
namespace Go.Proofs.YtmfehflibkokbaaGreatDoor
open Go.Proofs.Tryz
open Go.RowKit
def aS (p:Nod):Bool:=
 decide (0<=p.k/\p.k<=6)&&(p.L.all fO&&(p.tail.all fO&&(p.key.all bZ&&(p.U.all bZ&&((p.mem||decide (p.key=[]))&&((if p.k=3 then nL p.X else decide (p.X=[]))&&((decide (p.k=4)||decide (p.U=[]))&&((decide (5<=p.k)||(decide (p.C=0)&&decide (p.tail=[])))&&decide (0<=p.C)))))))))
theorem qL (p:Nod):aS p=true ↔ fB fO nL p:=by
 unfold aS fB;simp only [Bool.and_eq_true,Bool.or_eq_true,decide_eq_true_eq];constructor
 ·rintro ⟨J,O,G,D,E,N,y,A,S,h⟩;refine ⟨J,O,G,D,E,N,fun e=>?_,fun e=>?_,fun e=>A.resolve_left e,fun e=>S.resolve_left (by omega),h⟩
  ·rw [if_pos e] at y;exact y
  ·rw [if_neg e] at y;exact of_decide_eq_true y
 ·rintro ⟨J,O,G,D,E,N,y,A,S,h,M⟩;refine ⟨J,O,G,D,E,N,?_,?_,?_,M⟩
  ·by_cases e:p.k=3
   ·rw [if_pos e];exact y e
   ·rw [if_neg e];exact decide_eq_true (A e)
  ·by_cases e:p.k=4
   ·exact .inl e
   ·exact .inr (S e)
  ·by_cases e:5<=p.k
   ·exact .inl e
   ·exact .inr (h (by omega))
theorem iA (p:Nod) (M:0<=p.k/\p.k<=6) (E:p.L.all fO=true) (y:p.tail.all fO=true) (N:p.key.all bZ=true) (O:p.U.all bZ=true) (J:p.mem=true\/p.key=[]) (S:p.k=3->nL p.X=true) (h:p.k≠3->p.X=[]) (A:p.k≠4->p.U=[]) (D:p.k<5->p.C=0/\p.tail=[]) (G:0<=p.C):aS p=true:=
 (qL p).2 ⟨M,E,y,N,O,J,S,h,A,D,G⟩
structure xJ (p:Nod):Prop where
 l:p.L.length<=1048576/\xC p.L
 t:p.tail.length<=1048576/\xC p.tail
 k:p.key.length<=1048576
 x:p.X.length<=1048576/\Bys p.X
 u:p.U.length<=1048576
structure N8 (W:World) (b:Nat) (p:Nod) (lv kv xv uv tv:Value):Prop where
 c0:W.cell? ⟨b,0,none⟩=some (.int .i64 p.k)
 c1:W.cell? ⟨b,1,none⟩=some lv
 c2:W.cell? ⟨b,2,none⟩=some (.bool p.mem)
 c3:W.cell? ⟨b,3,none⟩=some kv
 c4:W.cell? ⟨b,4,none⟩=some xv
 c5:W.cell? ⟨b,5,none⟩=some uv
 c6:W.cell? ⟨b,6,none⟩=some (.int .i64 p.C)
 c7:W.cell? ⟨b,7,none⟩=some tv
theorem N8.K {W E:World} {b:Nat} {p:Nod} {lv A D y tv:Value} (h:N8 W b p lv A D y tv) (g:W.grownBy E none):N8 E b p lv A D y tv:=
 ⟨g.cell h.c0 (by simp),g.cell h.c1 (by simp),g.cell h.c2 (by simp),g.cell h.c3 (by simp),g.cell h.c4 (by simp),g.cell h.c5 (by simp),g.cell h.c6 (by simp),g.cell h.c7 (by simp)⟩
theorem aCv (p:Nod) (lv kv xv uv tv:Value) (B:Nat) (w:World) (hB:B<=w.heap.size) (hl:RdC B w lv p.L) (hk:RdI B w kv p.key) (sk:Sl kv p.key.length) (hx:RdB B w xv p.X) (sx:Sl xv p.X.length) (hu:RdI B w uv p.U) (su:Sl uv p.U.length) (ht:RdC B w tv p.tail) (ho:xJ p) :
  Calls prog 35 #[.agg #[.int .i64 p.k,lv,.bool p.mem,kv,xv,uv,.int .i64 p.C,tv]] w fun e w'=>e=.returned (.bool (aS p))/\w.grownBy w' none:=by
 have HL:=aB (fun (w':World) (g:w.grownBy w' none)=>kF lv p.L w' ((hl.K g).wide (Nat.le_trans hB g.size)) ho.l.1 ho.l.2);have HT:=aB (fun (w':World) (g:w.grownBy w' none)=>kF tv p.tail w' ((ht.K g).wide (Nat.le_trans hB g.size)) ho.t.1 ho.t.2);have HK:=aB (fun (w':World) (g:w.grownBy w' none)=>sF kv p.key w' ((hk.K g).wideC (Nat.le_trans hB g.size)) (by have:=ho.k;omega));have HU:=aB (fun (w':World) (g:w.grownBy w' none)=>sF uv p.U w' ((hu.K g).wideC (Nat.le_trans hB g.size)) (by have:=ho.u;omega));have HX:=aB (fun (w':World) (g:w.grownBy w' none)=>vY xv p.X w' ((hx.K g).wideC (Nat.le_trans hB g.size)) ho.x.2 ho.x.1);obtain ⟨la,b1,c9,_,_⟩:=hl.sl;obtain ⟨ta,a9,f6,_,_⟩:=ht.sl;obtain ⟨ka,b4,d0,_,_⟩:=sk;obtain ⟨xa,b2,d3,_,_⟩:=sx;obtain ⟨ua,b0,f3,_,_⟩:=su;have l1:=ho.k;have l2:=ho.u;have l3:=ho.x.1;have l4:=ho.t.1;subst c9 f6 d0 d3 f3;clear hl hk hx hu ht ho
 by_cases hr:0<=p.k/\p.k<=6
 ·obtain ⟨a4,a5⟩:=hr;have G:Hid (w.grownBy (w.alloc (Obj.cells #[.int .i64 p.k,.slice la p.L.length b1,.bool p.mem,.slice ka p.key.length b4,.slice xa p.X.length b2,.slice ua p.U.length b0,.int .i64 p.C,.slice ta p.tail.length a9] 35)) none):=gWA
  have N8:N8 (w.alloc (Obj.cells #[.int .i64 p.k,.slice la p.L.length b1,.bool p.mem,.slice ka p.key.length b4,.slice xa p.X.length b2,.slice ua p.U.length b0,.int .i64 p.C,.slice ta p.tail.length a9] 35)) w.heap.size p (.slice la p.L.length b1) (.slice ka p.key.length b4) (.slice xa p.X.length b2) (.slice ua p.U.length b0) (.slice ta p.tail.length a9):=
   ⟨by simp [go_sem],by simp [go_sem],by simp [go_sem],by simp [go_sem],by simp [go_sem],by simp [go_sem],by simp [go_sem],by simp [go_sem]⟩
  go_enter func35,ntmps35
  go_wp2_with fail
  refine (HL.out _ G.out).mono ?_;rintro e w1 ⟨rfl,g1⟩;have N8:=N8.K g1;obtain ⟨q0,q1,q2,q3,q4,q5,q6,q7⟩:=id N8;have G:=aB (aA G.out g1);clear g1;cases hL:p.L.all fO with
  | false=>
    have y:Hid (aS p=false):=(by unfold Hid aS;simp [hL]);go_wp2;go_ret;exact ⟨by rw [y.out];first | rfl | simp [y.out],G.out⟩
  | true=>
    go_wp2_with fail
    refine (HT.out _ G.out).mono ?_;rintro e w2 ⟨rfl,g2⟩;have N8:=N8.K g2;obtain ⟨q0,q1,q2,q3,q4,q5,q6,q7⟩:=id N8;have G:=aB (aA G.out g2);clear g2;cases hT:p.tail.all fO with
    | false=>
      have y:Hid (aS p=false):=(by unfold Hid aS;simp [hT]);go_wp2;go_ret;exact ⟨by rw [y.out];first | rfl | simp [y.out],G.out⟩
    | true=>
      go_wp2_with fail
      refine (HK.out _ G.out).mono ?_;rintro e w3 ⟨rfl,g3⟩;have N8:=N8.K g3;obtain ⟨q0,q1,q2,q3,q4,q5,q6,q7⟩:=id N8;have G:=aB (aA G.out g3);clear g3;cases hK:p.key.all bZ with
      | false=>
        have y:Hid (aS p=false):=(by unfold Hid aS;simp [hK]);go_wp2;go_ret;exact ⟨by rw [y.out];first | rfl | simp [y.out],G.out⟩
      | true=>
        go_wp2_with fail
        refine (HU.out _ G.out).mono ?_;rintro e w4 ⟨rfl,g4⟩;have N8:=N8.K g4;obtain ⟨q0,q1,q2,q3,q4,q5,q6,q7⟩:=id N8;have G:=aB (aA G.out g4);clear g4;cases hU:p.U.all bZ with
        | false=>
          have y:Hid (aS p=false):=(by unfold Hid aS;simp [hU]);go_wp2;go_ret;exact ⟨by rw [y.out];first | rfl | simp [y.out],G.out⟩
        | true=>
          cases hm:p.mem with
          | true=>
            by_cases Z:p.k=3
            ·have c0:(p.k==3)=true:=by simpa using Z
             go_wp2_with fail
             refine (HX.out _ G.out).mono ?_;rintro e w9 ⟨rfl,rfl⟩;cases hX:nL p.X with
             | false=>
               have y:Hid (aS p=false):=(by unfold Hid aS;simp [Z,hX]);go_wp2;go_ret;exact ⟨by rw [y.out];first | rfl | simp [y.out],G.out⟩
             | true=>
               have a8:(p.k != 4)=true:=(by rw [Z];rfl);have Y:¬ p.k=4:=by omega
               by_cases E:p.U=[]
               ·have a6:(p.U.length:Int)=0:=(by rw [E];rfl);have h5:p.k<5:=by omega
                ·have J:¬ 5<=p.k:=by omega
                 by_cases A:p.C=0
                 ·have N:(p.C != 0)=false:=by simpa using A
                  by_cases D:p.tail=[]
                  ·have O:(p.tail.length:Int)=0:=(by rw [D];rfl);have y:Hid (aS p=true):=iA p ⟨a4,a5⟩ hL hT hK hU (by first | exact .inl hm | exact .inr S) (by intro e;first | exact hX | omega) (by intro e;first | exact M | exact absurd Z e) (by intro e;first | exact E | exact absurd Y e) (by intro e;first | exact ⟨A,D⟩ | omega) (by first | exact A | omega);go_wp2;go_ret;exact ⟨by rw [y.out];first | rfl | simp [y.out],G.out⟩
                  ·have O:¬ (p.tail.length:Int)=0:=fun h=>D (List.eq_nil_of_length_eq_zero (by omega));have y:Hid (aS p=false):=(by unfold Hid aS;simp [J,D]);go_wp2;go_ret;exact ⟨by rw [y.out];first | rfl | simp [y.out],G.out⟩
                 ·have N:(p.C != 0)=true:=(by simpa using A);have y:Hid (aS p=false):=(by unfold Hid aS;simp [J,A]);go_wp2;go_ret;exact ⟨by rw [y.out];first | rfl | simp [y.out],G.out⟩
               ·have a6:¬ (p.U.length:Int)=0:=fun h=>E (List.eq_nil_of_length_eq_zero (by omega));have y:Hid (aS p=false):=(by unfold Hid aS;simp [Y,E]);go_wp2;go_ret;exact ⟨by rw [y.out];first | rfl | simp [y.out],G.out⟩
            ·have c0:(p.k==3)=false:=by simpa using Z
             by_cases M:p.X=[]
             ·have c1:(p.X.length:Int)=0:=by rw [M];rfl
              by_cases Y:p.k=4
              ·have a8:(p.k != 4)=false:=(by simpa using Y);have h5:p.k<5:=by omega
               ·have J:¬ 5<=p.k:=by omega
                by_cases A:p.C=0
                ·have N:(p.C != 0)=false:=by simpa using A
                 by_cases D:p.tail=[]
                 ·have O:(p.tail.length:Int)=0:=(by rw [D];rfl);have y:Hid (aS p=true):=iA p ⟨a4,a5⟩ hL hT hK hU (by first | exact .inl hm | exact .inr S) (by intro e;first | exact hX | omega) (by intro e;first | exact M | exact absurd Z e) (by intro e;first | exact E | exact absurd Y e) (by intro e;first | exact ⟨A,D⟩ | omega) (by first | exact A | omega);go_wp2;go_ret;exact ⟨by rw [y.out];first | rfl | simp [y.out],G.out⟩
                 ·have O:¬ (p.tail.length:Int)=0:=fun h=>D (List.eq_nil_of_length_eq_zero (by omega));have y:Hid (aS p=false):=(by unfold Hid aS;simp [J,D]);go_wp2;go_ret;exact ⟨by rw [y.out];first | rfl | simp [y.out],G.out⟩
                ·have N:(p.C != 0)=true:=(by simpa using A);have y:Hid (aS p=false):=(by unfold Hid aS;simp [J,A]);go_wp2;go_ret;exact ⟨by rw [y.out];first | rfl | simp [y.out],G.out⟩
              ·have a8:(p.k != 4)=true:=by simpa using Y
               by_cases E:p.U=[]
               ·have a6:(p.U.length:Int)=0:=by rw [E];rfl
                by_cases h5:p.k<5
                ·have J:¬ 5<=p.k:=by omega
                 by_cases A:p.C=0
                 ·have N:(p.C != 0)=false:=by simpa using A
                  by_cases D:p.tail=[]
                  ·have O:(p.tail.length:Int)=0:=(by rw [D];rfl);have y:Hid (aS p=true):=iA p ⟨a4,a5⟩ hL hT hK hU (by first | exact .inl hm | exact .inr S) (by intro e;first | exact hX | omega) (by intro e;first | exact M | exact absurd Z e) (by intro e;first | exact E | exact absurd Y e) (by intro e;first | exact ⟨A,D⟩ | omega) (by first | exact A | omega);go_wp2;go_ret;exact ⟨by rw [y.out];first | rfl | simp [y.out],G.out⟩
                  ·have O:¬ (p.tail.length:Int)=0:=fun h=>D (List.eq_nil_of_length_eq_zero (by omega));have y:Hid (aS p=false):=(by unfold Hid aS;simp [J,D]);go_wp2;go_ret;exact ⟨by rw [y.out];first | rfl | simp [y.out],G.out⟩
                 ·have N:(p.C != 0)=true:=(by simpa using A);have y:Hid (aS p=false):=(by unfold Hid aS;simp [J,A]);go_wp2;go_ret;exact ⟨by rw [y.out];first | rfl | simp [y.out],G.out⟩
                ·have J:5<=p.k:=by omega
                 by_cases A:0<=p.C
                 ·have c2:¬ p.C<0:=(by omega);have y:Hid (aS p=true):=iA p ⟨a4,a5⟩ hL hT hK hU (by first | exact .inl hm | exact .inr S) (by intro e;first | exact hX | omega) (by intro e;first | exact M | exact absurd Z e) (by intro e;first | exact E | exact absurd Y e) (by intro e;first | exact ⟨A,D⟩ | omega) (by first | exact A | omega);go_wp2;go_ret;exact ⟨by rw [y.out];first | rfl | simp [A],G.out⟩
                 ·have c2:p.C<0:=(by omega);have y:Hid (aS p=false):=(by unfold Hid aS;simp [A]);go_wp2;go_ret;exact ⟨by rw [y.out];first | rfl | simp [A],G.out⟩
               ·have a6:¬ (p.U.length:Int)=0:=fun h=>E (List.eq_nil_of_length_eq_zero (by omega));have y:Hid (aS p=false):=(by unfold Hid aS;simp [Y,E]);go_wp2;go_ret;exact ⟨by rw [y.out];first | rfl | simp [y.out],G.out⟩
             ·have c1:¬ (p.X.length:Int)=0:=fun h=>M (List.eq_nil_of_length_eq_zero (by omega));have y:Hid (aS p=false):=(by unfold Hid aS;simp [Z,M]);go_wp2;go_ret;exact ⟨by rw [y.out];first | rfl | simp [y.out],G.out⟩
          | false=>
            by_cases S:p.key=[]
            ·have d7:(p.key.length:Int)=0:=by rw [S];rfl
             by_cases Z:p.k=3
             ·have c0:(p.k==3)=true:=by simpa using Z
              go_wp2_with fail
              refine (HX.out _ G.out).mono ?_;rintro e w9 ⟨rfl,rfl⟩;cases hX:nL p.X with
              | false=>
                have y:Hid (aS p=false):=(by unfold Hid aS;simp [Z,hX]);go_wp2;go_ret;exact ⟨by rw [y.out];first | rfl | simp [y.out],G.out⟩
              | true=>
                have a8:(p.k != 4)=true:=(by rw [Z];rfl);have Y:¬ p.k=4:=by omega
                by_cases E:p.U=[]
                ·have a6:(p.U.length:Int)=0:=(by rw [E];rfl);have h5:p.k<5:=by omega
                 ·have J:¬ 5<=p.k:=by omega
                  by_cases A:p.C=0
                  ·have N:(p.C != 0)=false:=by simpa using A
                   by_cases D:p.tail=[]
                   ·have O:(p.tail.length:Int)=0:=(by rw [D];rfl);have y:Hid (aS p=true):=iA p ⟨a4,a5⟩ hL hT hK hU (by first | exact .inl hm | exact .inr S) (by intro e;first | exact hX | omega) (by intro e;first | exact M | exact absurd Z e) (by intro e;first | exact E | exact absurd Y e) (by intro e;first | exact ⟨A,D⟩ | omega) (by first | exact A | omega);go_wp2;go_ret;exact ⟨by rw [y.out];first | rfl | simp [y.out],G.out⟩
                   ·have O:¬ (p.tail.length:Int)=0:=fun h=>D (List.eq_nil_of_length_eq_zero (by omega));have y:Hid (aS p=false):=(by unfold Hid aS;simp [J,D]);go_wp2;go_ret;exact ⟨by rw [y.out];first | rfl | simp [y.out],G.out⟩
                  ·have N:(p.C != 0)=true:=(by simpa using A);have y:Hid (aS p=false):=(by unfold Hid aS;simp [J,A]);go_wp2;go_ret;exact ⟨by rw [y.out];first | rfl | simp [y.out],G.out⟩
                ·have a6:¬ (p.U.length:Int)=0:=fun h=>E (List.eq_nil_of_length_eq_zero (by omega));have y:Hid (aS p=false):=(by unfold Hid aS;simp [Y,E]);go_wp2;go_ret;exact ⟨by rw [y.out];first | rfl | simp [y.out],G.out⟩
             ·have c0:(p.k==3)=false:=by simpa using Z
              by_cases M:p.X=[]
              ·have c1:(p.X.length:Int)=0:=by rw [M];rfl
               by_cases Y:p.k=4
               ·have a8:(p.k != 4)=false:=(by simpa using Y);have h5:p.k<5:=by omega
                ·have J:¬ 5<=p.k:=by omega
                 by_cases A:p.C=0
                 ·have N:(p.C != 0)=false:=by simpa using A
                  by_cases D:p.tail=[]
                  ·have O:(p.tail.length:Int)=0:=(by rw [D];rfl);have y:Hid (aS p=true):=iA p ⟨a4,a5⟩ hL hT hK hU (by first | exact .inl hm | exact .inr S) (by intro e;first | exact hX | omega) (by intro e;first | exact M | exact absurd Z e) (by intro e;first | exact E | exact absurd Y e) (by intro e;first | exact ⟨A,D⟩ | omega) (by first | exact A | omega);go_wp2;go_ret;exact ⟨by rw [y.out];first | rfl | simp [y.out],G.out⟩
                  ·have O:¬ (p.tail.length:Int)=0:=fun h=>D (List.eq_nil_of_length_eq_zero (by omega));have y:Hid (aS p=false):=(by unfold Hid aS;simp [J,D]);go_wp2;go_ret;exact ⟨by rw [y.out];first | rfl | simp [y.out],G.out⟩
                 ·have N:(p.C != 0)=true:=(by simpa using A);have y:Hid (aS p=false):=(by unfold Hid aS;simp [J,A]);go_wp2;go_ret;exact ⟨by rw [y.out];first | rfl | simp [y.out],G.out⟩
               ·have a8:(p.k != 4)=true:=by simpa using Y
                by_cases E:p.U=[]
                ·have a6:(p.U.length:Int)=0:=by rw [E];rfl
                 by_cases h5:p.k<5
                 ·have J:¬ 5<=p.k:=by omega
                  by_cases A:p.C=0
                  ·have N:(p.C != 0)=false:=by simpa using A
                   by_cases D:p.tail=[]
                   ·have O:(p.tail.length:Int)=0:=(by rw [D];rfl);have y:Hid (aS p=true):=iA p ⟨a4,a5⟩ hL hT hK hU (by first | exact .inl hm | exact .inr S) (by intro e;first | exact hX | omega) (by intro e;first | exact M | exact absurd Z e) (by intro e;first | exact E | exact absurd Y e) (by intro e;first | exact ⟨A,D⟩ | omega) (by first | exact A | omega);go_wp2;go_ret;exact ⟨by rw [y.out];first | rfl | simp [y.out],G.out⟩
                   ·have O:¬ (p.tail.length:Int)=0:=fun h=>D (List.eq_nil_of_length_eq_zero (by omega));have y:Hid (aS p=false):=(by unfold Hid aS;simp [J,D]);go_wp2;go_ret;exact ⟨by rw [y.out];first | rfl | simp [y.out],G.out⟩
                  ·have N:(p.C != 0)=true:=(by simpa using A);have y:Hid (aS p=false):=(by unfold Hid aS;simp [J,A]);go_wp2;go_ret;exact ⟨by rw [y.out];first | rfl | simp [y.out],G.out⟩
                 ·have J:5<=p.k:=by omega
                  by_cases A:0<=p.C
                  ·have c2:¬ p.C<0:=(by omega);have y:Hid (aS p=true):=iA p ⟨a4,a5⟩ hL hT hK hU (by first | exact .inl hm | exact .inr S) (by intro e;first | exact hX | omega) (by intro e;first | exact M | exact absurd Z e) (by intro e;first | exact E | exact absurd Y e) (by intro e;first | exact ⟨A,D⟩ | omega) (by first | exact A | omega);go_wp2;go_ret;exact ⟨by rw [y.out];first | rfl | simp [A],G.out⟩
                  ·have c2:p.C<0:=(by omega);have y:Hid (aS p=false):=(by unfold Hid aS;simp [A]);go_wp2;go_ret;exact ⟨by rw [y.out];first | rfl | simp [A],G.out⟩
                ·have a6:¬ (p.U.length:Int)=0:=fun h=>E (List.eq_nil_of_length_eq_zero (by omega));have y:Hid (aS p=false):=(by unfold Hid aS;simp [Y,E]);go_wp2;go_ret;exact ⟨by rw [y.out];first | rfl | simp [y.out],G.out⟩
              ·have c1:¬ (p.X.length:Int)=0:=fun h=>M (List.eq_nil_of_length_eq_zero (by omega));have y:Hid (aS p=false):=(by unfold Hid aS;simp [Z,M]);go_wp2;go_ret;exact ⟨by rw [y.out];first | rfl | simp [y.out],G.out⟩
            ·have d7:¬ (p.key.length:Int)=0:=fun h=>S (List.eq_nil_of_length_eq_zero (by omega));have y:Hid (aS p=false):=(by unfold Hid aS;simp [hm,S]);go_wp2;go_ret;exact ⟨by rw [y.out];first | rfl | simp [y.out],G.out⟩
 ·have y:Hid (aS p=false):=by unfold Hid aS;rw [decide_eq_false hr];rfl
  by_cases h0:p.k<0
  ·go_enter func35,ntmps35
   go_wp2;go_ret;exact ⟨by rw [y.out];rfl,gWA⟩
  ·have h6:6<p.k:=by omega
   go_enter func35,ntmps35
   go_wp2;go_ret;exact ⟨by rw [y.out];rfl,gWA⟩
end Go.Proofs.YtmfehflibkokbaaGreatDoor
namespace Go.Proofs.YtmfehflibkokbaaGreatDoor
open Go.Proofs.Tryz
def As7 (t:List Int):Prop:=∀ x∈t,32<=x/\x<128
theorem As7.vt {t:List Int} (h:As7 t):Vt t/\10 ∉ t:=⟨iW (fun x A=>by have:=h x A;omega),fun y=>by have:=h 10 y;omega⟩
theorem As7.app {a b:List Int} (h:As7 a) (A:As7 b):As7 (a++b):=fun x y=>by
 rcases List.mem_append.1 y with y | y
 ·exact h x y
 ·exact A x y
theorem aCF {s:List Int} (h:aV s=true):As7 s:=fun x y=>by
 have:=List.all_eq_true.1 h x y;simp [aK] at this;omega
theorem aKd {s:List Int} (h:s.all eE=true):As7 s:=fun x y=>by
 have:=List.all_eq_true.1 h x y;simp only [eE,jF,aK,decide_eq_true_eq] at this
 split at this
 ·rename_i h1;omega
 ·split at this
  ·omega
  ·split at this
   ·omega
   ·omega
theorem aFj (p:Int->Bool) {s:List Int} (D:As7 (s.takeWhile p)) (A:As7 (s.dropWhile p).tail) (E:∀ x,p x=false->32<=x/\x<128):As7 s:=by
 have e:s.takeWhile p++s.dropWhile p=s:=List.takeWhile_append_dropWhile;rw [<- e];refine D.app ?_;cases y:s.dropWhile p with
 | nil=>exact fun x h=>by simp at h
 | cons a r=>
   rw [y] at A
   have G:p a=false:=by
    have:=List.head?_dropWhile_not p s;rw [y] at this;simpa using this
   intro x h;rcases List.mem_cons.1 h with rfl | h
   ·exact E x G
   ·exact A x h
theorem aCQ {s:List Int} (h:cJ s=true):As7 s:=by
 unfold cJ at h;simp only at h
 split at h
 ·cases h
 ·rename_i hd
  simp only [Bool.or_eq_true,Bool.not_eq_true',not_or,Bool.not_eq_false] at hd;exact aFj (· != 46) (aCF hd.1) (aCF hd.2) (fun x y=>by simp at y;omega)
theorem aA4 {s:List Int} (h:As7 (strip s)):As7 s:=by
 cases s with
 | nil=>exact h
 | cons c r=>
   simp only [strip] at h
   split at h
   ·rename_i hs
    simp [aAy] at hs;intro x y;rcases List.mem_cons.1 y with rfl | y
    ·omega
    ·exact h x y
   ·exact h
theorem aJI {s:List Int} (h:nL s=true):As7 s:=by
 refine aA4 ?_;unfold nL dI at h;generalize strip s=z at h ⊢
 split at h
 ·rename_i hs
  rcases hs with rfl | rfl
  ·intro x y;simp [nP] at y;omega
  ·intro x y;simp [nan] at y;omega
 ·split at h
  ·rename_i y
   obtain ⟨E,D,A⟩:=y
   match z,E,D,A,h with
   | a::b::r,_,D,A,h=>
     simp at D A h;have G:=aKd (s:=r) (by simpa using h);simp [isX] at A;intro x y;simp only [List.mem_cons] at y;rcases y with rfl | rfl | y
     ·omega
     ·omega
     ·exact G x y
  ·split at h
   ·simp only [Bool.and_eq_true,oA] at h;exact aFj (fun c=>!isE c) (aCQ h.1) (aA4 (aCF h.2.2)) (fun x y=>by simp [isE] at y;omega)
   ·exact aCQ h
theorem aIR {y:List Int} (h:nmR y=true):As7 y:=by
 intro x D;obtain ⟨j,A,rfl⟩:=List.getElem_of_mem D;simp only [nmR,Bool.and_eq_true,sS,List.all_eq_true,List.mem_range] at h;have:=h.1 j A;simp [uC,gM,aK,A] at this;omega
theorem aJl (p:Int):Vt (fF p)/\10 ∉ fF p:=by
 unfold fF
 split
 ·rename_i hs
  refine As7.vt ?_;unfold pR at hs ⊢;intro x h
  repeat' split at h
  all_goals (simp at h;try omega)
 ·split
  ·refine As7.vt ?_;have y:∀ n:Int,0<=n->n<16->32<=mR n/\mR n<128:=fun n E A=>by unfold mR;split<;>omega
   have A:=y (p / 4096%16) (by omega) (by omega);have J:=y (p / 256%16) (by omega) (by omega);have G:=y (p / 16%16) (by omega) (by omega);have D:=y (p%16) (by omega) (by omega);intro x h;simp only [dH,List.mem_cons,List.not_mem_nil,or_false] at h;rcases h with rfl | rfl | rfl | rfl | rfl | rfl<;>first | omega | assumption
  ·rename_i hb
   simp [mH] at hb;exact ⟨⟨[p],by simp [hb.2],by simp [aP]⟩,aCa hb.2 (by omega)⟩
theorem aFc:∀ ps,Vt (jC ps)/\10 ∉ jC ps
 | []=>⟨mO,by simp [jC]⟩
 | p::ps=>by
   obtain ⟨h,A⟩:=aJl p;obtain ⟨D,y⟩:=aFc ps;rw [show jC (p::ps)=fF p++jC ps by simp [jC]];exact ⟨kH h D,by simp only [List.mem_append,not_or];exact ⟨A,y⟩⟩
theorem aKz (h:List Int):Vt (quR h).1/\10 ∉ (quR h).1:=by
 unfold quR
 split
 ·obtain ⟨A,D⟩:=aFc (fuR h).1;have y:Vt [34]:=iW (by simp);refine ⟨kH (kH y A) y,?_⟩;simp only [List.cons_append,List.mem_cons,List.mem_append,List.not_mem_nil,or_false,not_or];exact ⟨by omega,D,by omega⟩
 ·exact ⟨mO,by simp⟩
theorem uX {t:List Int} (h:Vt t/\10 ∉ t):OkT (bT t):=fun _=>h
theorem vt2 {a b:List Int} (h:Vt a/\10 ∉ a) (y:Vt b/\10 ∉ b):Vt (a++b)/\10 ∉ a++b:=⟨kH h.1 y.1,by simp only [List.mem_append,not_or];exact ⟨h.2,y.2⟩⟩
theorem aLL (y:List Int):Vt (fS y)/\10 ∉ fS y:=by
 unfold fS
 split
 ·rename_i h;exact (aIR h).vt
 ·exact aKz y
theorem aLr (n:Nod):OkL (nG n):=by
 unfold nG
 split
 ·exact eQ (uX (vt2 (aLL _) (As7.vt (fun x h=>by simp at h;omega)))) sO
 ·exact sO
theorem aJe {n:Nod} (h:n.k=3->nL n.X=true):OkT (bT (aBm n)):=by
 refine uX ?_;unfold aBm
 split
 ·rename_i hk;exact (aJI (h hk)).vt
 ·split
  ·exact aKz _
  ·split
   ·exact As7.vt (fun x y=>by simp at y;omega)
   ·split
    ·exact As7.vt (fun x y=>by simp at y;omega)
    ·exact As7.vt (fun x y=>by simp at y;omega)
theorem aDj:∀ (y:List (List Int)),(∀ l∈y,Vt l/\10 ∉ l)->OkL (wS y)
 | [],_=>sO
 | [l],h=>eQ (uX (h l (by simp))) sO
 | l::m::y,h=>eQ (uX (h l (by simp))) (eQ (jN (by omega)) (aDj (m::y) (fun x A=>h x (by simp at A ⊢;exact .inr A))))
theorem aKT {c:Cm} (Z:Bys c.t) (h:fO c=true):Vt c.t/\(c.b=false->10 ∉ c.t):=by
 simp only [fO,Bool.and_eq_true,decide_eq_true_eq] at h;obtain ⟨S,N⟩:=h;have hv:Vt c.t:=aL3 Z (by unfold aI;rw [if_pos S];omega);refine ⟨hv,fun Y y=>?_⟩;obtain ⟨q,D,J⟩:=hv
 have U:(eS c.t).1=q:=by
  have:=aAX D;rw [oK _ D,<- J] at this;rw [this]
 rw [U,Y] at N;rw [J] at y;simp only [aP,List.mem_flatMap] at y;obtain ⟨p,M,hm⟩:=y
 have A:p=10:=by
  apply Classical.byContradiction;intro G;exact aCa (List.all_eq_true.1 D p M) G hm
 obtain ⟨j,O,E⟩:=List.getElem_of_mem M;have:=List.all_eq_true.1 N j (List.mem_range.2 O);have X:q[j]?.getD 0=10:=(by rw [List.getElem?_eq_getElem O,E,A];rfl);simp [cAt,X,lnE] at this
theorem aHF {c:Cm} (G:Bys c.t) (h:fO c=true):OkT (pU c):=by
 obtain ⟨y,E⟩:=aKT G h;unfold pU
 split
 ·refine tG (aDj _ ?_);have hv:Vt (47::42::c.t++[42,47]):=kH (kH (iW (t:=[47,42]) (by simp)) y) (iW (by simp));obtain ⟨q,A,D⟩:=hv;rw [D];exact aLN A [] mO (by simp)
 ·rename_i hf
  exact uX (vt2 (As7.vt (t:=[47,47]) (fun x J=>by simp at J;omega)) ⟨y,E (by simpa using hf)⟩)
theorem aHD {y:List Cm} (G:∀ c∈y,Bys c.t) (h:y.all fO=true):OkL (fD y):=by
 intro T A;simp only [fD,List.mem_flatMap] at A;obtain ⟨c,D,E⟩:=A;simp at E;rcases E with rfl | rfl
 ·exact aHF (G c D) (List.all_eq_true.1 h c D)
 ·exact jN (by omega)
theorem aLF {y:List Cm} (G:∀ c∈y,Bys c.t) (h:y.all fO=true):OkL (jK y):=by
 intro T A;simp only [jK,List.mem_flatMap] at A;obtain ⟨c,D,E⟩:=A;simp at E;rcases E with rfl | rfl
 ·exact jN (by omega)
 ·exact aHF (G c D) (List.all_eq_true.1 h c D)
theorem aHU {n:Nod} (h:fB fO nL n) (A:xJ n):NdX n:=by
 obtain ⟨_,E,G,_,_,_,D,_⟩:=h;exact ⟨aHD (fun c y=>(A.l.2 c y).2) E,aLF (fun c y=>(A.t.2 c y).2) G,aLr n,aJe D⟩
def ShT:Tr->Prop
 | .leaf p=>(0<=p.k/\p.k<=5)/\p.n=0/\(p.k≠1->p.t=[])
 | .un p x=>((p.k=7/\0<=p.n)\/(p.k=8/\p.n=0))/\p.t=[]/\ShT x
 | .bin p x y=>(p.k=6\/p.k=9)/\p.t=[]/\p.n=0/\ShT x/\ShT y
def Sh (B:Int) (T:Tr):Prop:=ShT T/\jH T<=B
def ShL (B:Int) (Ts:List Tr):Prop:=∀ T∈Ts,Sh B T
theorem jP (B:Int):ShL B []:=fun T h=>by simp at h
theorem dB {B:Int} {T:Tr} {r:List Tr} (h:Sh B T) (A:ShL B r):ShL B (T::r):=fun U y=>by
 rcases List.mem_cons.1 y with rfl | y
 ·exact h
 ·exact A U y
theorem qZ {B:Int} {a b:List Tr} (h:ShL B a) (A:ShL B b):ShL B (a++b):=fun U y=>by
 rcases List.mem_append.1 y with y | y
 ·exact h U y
 ·exact A U y
theorem jS {B k:Int} (y:0<=B) (h:0<=k/\k<=5):Sh B (bD k):=⟨⟨h,rfl,fun _=>rfl⟩,y⟩
theorem iY {B:Int} (y:0<=B) (t:List Int):Sh B (bT t):=⟨⟨by simp,rfl,fun h=>absurd rfl h⟩,y⟩
theorem aK3 {B:Int} {x y:Tr} (h:Sh B x) (A:Sh B y):Sh B (sN x y):=by
 refine ⟨⟨.inl rfl,rfl,rfl,h.1,A.1⟩,?_⟩;simp only [sN,jH]
 split
 ·exact h.2
 ·exact A.2
theorem aFR {B:Int} : ∀ (r:List Tr) (T:Tr),Sh B T->ShL B r->Sh B (r.foldl sN T)
 | [],T,h,_=>h
 | U::r,T,h,hr=>aFR r (sN T U) (aK3 h (hr U (by simp))) (fun X y=>hr X (by simp [y]))
theorem zD {B:Int} (A:0<=B) {y:List Tr} (h:ShL B y):Sh B (iV y):=by
 cases y with
 | nil=>exact ⟨⟨by simp,rfl,fun _=>rfl⟩,A⟩
 | cons T r=>exact aFR r T (h T (by simp)) (fun X D=>h X (by simp [D]))
theorem aFG {B ind:Int} (D:0<=B) (E:0<=ind) (G:B+ind<=4000) {y:List Tr} (h:ShL B y):Sh (B+ind) (oH ind y):=by
 obtain ⟨A,J⟩:=zD D h;refine ⟨⟨.inl ⟨rfl,E⟩,rfl,A⟩,?_⟩;simp only [oH,jH];rw [if_neg (by omega)];omega
theorem aFJ {B:Int} (h:0<=B):∀ y,ShL B (wS y)
 | []=>jP B
 | [l]=>dB (iY h l) (jP B)
 | l::m::y=>dB (iY h l) (dB (jS h (by omega)) (aFJ h (m::y)))
theorem aHB {B:Int} (h:0<=B) (c:Cm):Sh B (pU c):=by
 unfold pU
 split
 ·exact zD h (aFJ h _)
 ·exact iY h _
theorem aBL {B:Int} (y:0<=B) (D:List Cm):ShL B (fD D):=by
 intro T h;simp only [fD,List.mem_flatMap] at h;obtain ⟨c,E,A⟩:=h;simp at A;rcases A with rfl | rfl
 ·exact aHB y c
 ·exact jS y (by omega)
theorem aFO {B:Int} (y:0<=B) (D:List Cm):ShL B (jK D):=by
 intro T h;simp only [jK,List.mem_flatMap] at h;obtain ⟨c,E,A⟩:=h;simp at A;rcases A with rfl | rfl
 ·exact jS y (by omega)
 ·exact aHB y c
theorem aJG {B:Int} (h:0<=B) (n:Nod):ShL B (nG n):=by
 unfold nG
 split
 ·exact dB (iY h _) (jP B)
 ·exact jP B
theorem aLv {B:Int} (h:0<=B) {V:List Nod->Tr} (y:∀ R,Sh B (V R)):∀ R,ShL B (mW V R)
 | []=>jP B
 | n::_=>qZ (aBL h _) (qZ (aJG h n) (dB (y _) (jP B)))
theorem aFW {B:Int} (h:0<=B) {V:List Nod->Tr} (y:∀ R,Sh B (V R)) (P:List Nod->List Pc × List Nod) (R:List Nod):∀ k,ShL B (oZ V P k R)
 | 0=>jP B
 | k+1=>by
   refine qZ (aFW h y P R k) (qZ ?_ (aLv h y _))
   split
   ·exact jP B
   ·exact dB (iY h _) (dB (jS h (by omega)) (jP B))
theorem aHJ (k:Int):0<=oD k/\oD k<=5:=by have:=zL k;omega
theorem aEI {ind:Int} (D:0<=ind) (A:ind<=16):∀ (d:Nat),d<=201->∀ R,Sh (ind*d) (dZ ind d R)
 | 0,_,_=>jS (by simp) (by omega)
 | d+1,hd,[]=>jS (Int.mul_nonneg D (by omega)) (by omega)
 | d+1,hd,n::R=>by
   have y:0<=ind*(d:Int):=Int.mul_nonneg D (by omega);have e:ind*((d+1:Nat):Int)=ind*d+ind:=by push_cast;rw [Int.mul_add,Int.mul_one]
   have E:ind*(d:Int)+ind<=4000:=by
    have:ind*(d:Int)<=16*d:=Int.mul_le_mul_of_nonneg_right A (by omega);omega
   have h:0<=ind*(d:Int)+ind:=(by omega);rw [e];simp only [dZ]
   split
   ·exact iY h _
   ·unfold pQ
    split
    ·split
     ·exact iY h _
     ·exact zD h (dB (iY h _) (dB (aFG y D E (aFO y _)) (dB (jS h (by omega)) (dB (iY h _) (jP _)))))
    ·have G:Sh (ind*d+ind) (sE ind n (oZ (dZ ind d) (aJ ind d) n.C.toNat R)):=by
      refine zD h (dB (iY h _) (dB (aFG y D E ?_) (dB (jS h (aHJ _)) (dB (iY h _) (jP _)))));refine dB (jS y (aHJ _)) (qZ (aFW y (fun R=>aEI D A d (by omega) R) _ _ _) (dB ?_ (aFO y _)));exact ⟨⟨.inr rfl,rfl,rfl,(iY y _).1,(jS y (by omega)).1⟩,by simp only [yH,jH,bT,bD];simpa using y⟩
     refine ⟨⟨.inr ⟨rfl,rfl⟩,rfl,G.1⟩,?_⟩;have:=G.2;simp only [jH];rw [if_neg (by omega)];omega
def PcT:Tr->Prop
 | .leaf p=>nE p=true
 | .un p x=>nE p=true/\PcT x
 | .bin p x y=>nE p=true/\PcT x/\PcT y
theorem yE:∀ (T:Tr),OkT T->ShT T->PcT T
 | .leaf p,h,⟨h1,h2,h3⟩=>by
   refine (fQ p).2 ⟨⟨h1.1,by omega⟩,fun A=>?_,fun A=>by rw [h3 A];rfl,fun A=>by omega,fun _=>h2⟩;obtain ⟨D,E⟩:=h A;exact ⟨by simpa using E,aHK D⟩
 | .un p x,h,⟨h1,h2,h3⟩=>⟨(fQ p).2 ⟨by omega,fun A=>by omega,fun _=>by rw [h2];rfl,fun A=>by omega,fun A=>by omega⟩,yE x h.2 h3⟩
 | .bin p x y,h,⟨h1,h2,h3,h4,h5⟩=>⟨(fQ p).2 ⟨by omega,fun A=>by omega,fun _=>by rw [h2];rfl,fun A=>by omega,fun _=>h3⟩,yE x h.1 h4,yE y h.2 h5⟩
theorem aIz:∀ (ps:List Pc) (st A:List Tr),bd ps st=some A->(∀ T∈A,PcT T)->(∀ p∈ps,nE p=true)/\∀ T∈st,PcT T
 | [],st,A,h,y=>by simp [bd] at h;subst h;exact ⟨by simp,y⟩
 | p::ps,st,A,h,y=>by
   simp only [bd] at h;obtain ⟨J,D,N⟩:=Option.bind_eq_some_iff.1 h;obtain ⟨M,E⟩:=aIz ps J A N y
   have:nE p=true/\∀ T∈st,PcT T:=by
    unfold dA at D
    split at D
    ·cases D;exact ⟨E (.leaf p) (by simp),fun T y=>E T (by simp [y])⟩
    ·split at D
     ·split at D
      ·cases D;obtain ⟨a,b⟩:=E _ (List.mem_cons_self ..);exact ⟨a,fun T y=>by rcases List.mem_cons.1 y with rfl | y;exact b;exact E T (by simp [y])⟩
      ·cases D
     ·split at D
      ·cases D;obtain ⟨a,b,c⟩:=E _ (List.mem_cons_self ..);exact ⟨a,fun T y=>by simp only [List.mem_cons] at y;rcases y with rfl | rfl | y;exact c;exact b;exact E T (by simp [y])⟩
      ·cases D
   exact ⟨fun q G=>by rcases List.mem_cons.1 G with rfl | G;exact this.1;exact M q G,this.2⟩
end Go.Proofs.YtmfehflibkokbaaGreatDoor
namespace Go.Proofs.YtmfehflibkokbaaGreatDoor
open Go.Proofs.Tryz
open Go.RowKit
theorem aKR:(prog.info? 128).map (fun i=>(i.zero,i.size,i.bytes))=some (some (.agg #[.bool false,.slice none 0 0]),2,32):=by kernel_rfl
theorem uF {B:Nat} {w:World} {e:TypeId} {size n:Nat} {v:Value} {xs:List Value} (h:w.ownsRow B e size v n xs) (a:Addr) (u:Value) (A:v.ownBlock≠some a.block):(w.setCell a u).ownsRow B e size v n xs:=
 World.ownsRow.kept h ⟨rfl,rfl,rfl,by simp,fun i _ y=>Below.heap_setCell _ _ _ _ (fun e=>y (by rw [e]))⟩ (by
  cases hv:v.ownBlock with
  | none=>exact .inl rfl
  | some k=>exact .inr (fun e=>A (by rw [hv,e])))
theorem Ow.setC {q:IntKind} {t:TypeId} {B:Nat} {w:World} {v:Value} {zs:List Int} (h:Ow q t B w v zs) (a:Addr) (u:Value) (y:a.block<B):Ow q t B (w.setCell a u) v zs:=
 uF h a u (fun e=>by have:=World.ownsRow.lt h _ e;omega)
theorem gV {W y:World} {a:Addr} {v:Value} (A:W.grownBy y none) (h:W.cell? a=some v) (D:W.frozen? a=false):y.cell? a=some v/\y.frozen? a=false:=
 ⟨A.cell h (by simp),(World.frozen?_of_block (A.block a.block (World.block_lt_of_cell? W a h) (by simp))).trans D⟩
structure NOk (p:Nod):Prop where
 L:p.L.length<=1048576
 leads:∀ c∈p.L,c.t.length<=1048576
 key:p.key.length<=1048576
 X:p.X.length<=1048576
 U:p.U.length<=1048576
 tail:p.tail.length<=1048576
 tails:∀ c∈p.tail,c.t.length<=1048576
structure C8 (w:World) (b:Nat) (a0 a1 a2 a3 a4 a5 a6 a7:Value):Prop where
 c0:w.cell? ⟨b,0,none⟩=some a0
 c1:w.cell? ⟨b,1,none⟩=some a1
 c2:w.cell? ⟨b,2,none⟩=some a2
 c3:w.cell? ⟨b,3,none⟩=some a3
 c4:w.cell? ⟨b,4,none⟩=some a4
 c5:w.cell? ⟨b,5,none⟩=some a5
 c6:w.cell? ⟨b,6,none⟩=some a6
 c7:w.cell? ⟨b,7,none⟩=some a7
 fz:∀ j,w.frozen? ⟨b,j,none⟩=false
theorem C8.K {w w':World} {b:Nat} {a0 a1 a2 a3 G E A D:Value} (h:C8 w b a0 a1 a2 a3 G E A D) (y:w.grownBy w' none):C8 w' b a0 a1 a2 a3 G E A D:=
 ⟨y.cell h.c0 (by simp),y.cell h.c1 (by simp),y.cell h.c2 (by simp),y.cell h.c3 (by simp),y.cell h.c4 (by simp),y.cell h.c5 (by simp),y.cell h.c6 (by simp),y.cell h.c7 (by simp),
  fun j=>(World.frozen?_of_block (y.block b (World.block_lt_of_cell? w _ h.c0) (by simp))).trans (h.fz j)⟩
theorem C8.p1 {w:World} {b:Nat} {a0 a1 a2 a3 E D y A:Value} (h:C8 w b a0 a1 a2 a3 E D y A) (x:Value):C8 (w.setCell ⟨b,1,none⟩ x) b a0 x a2 a3 E D y A:=by
 obtain ⟨S,X,J,N,G,Y,M,U,O⟩:=h;exact ⟨by simp [go_sem,S],by simp [go_sem,X],by simp [go_sem,J],by simp [go_sem,N],by simp [go_sem,G],by simp [go_sem,Y],by simp [go_sem,M],by simp [go_sem,U],fun j=>by simpa using O j⟩
theorem C8.p3 {w:World} {b:Nat} {a0 a1 a2 a3 E D y A:Value} (h:C8 w b a0 a1 a2 a3 E D y A) (x:Value):C8 (w.setCell ⟨b,3,none⟩ x) b a0 a1 a2 x E D y A:=by
 obtain ⟨S,X,J,N,G,Y,M,U,O⟩:=h;exact ⟨by simp [go_sem,S],by simp [go_sem,X],by simp [go_sem,J],by simp [go_sem,N],by simp [go_sem,G],by simp [go_sem,Y],by simp [go_sem,M],by simp [go_sem,U],fun j=>by simpa using O j⟩
theorem C8.p4 {w:World} {b:Nat} {a0 a1 a2 a3 Y D y A:Value} (h:C8 w b a0 a1 a2 a3 Y D y A) (x:Value):C8 (w.setCell ⟨b,4,none⟩ x) b a0 a1 a2 a3 x D y A:=by
 obtain ⟨O,U,G,M,E,X,J,S,N⟩:=h;exact ⟨by simp [go_sem,O],by simp [go_sem,U],by simp [go_sem,G],by simp [go_sem,M],by simp [go_sem,E],by simp [go_sem,X],by simp [go_sem,J],by simp [go_sem,S],fun j=>by simpa using N j⟩
theorem C8.p5 {w:World} {b:Nat} {a0 a1 a2 a3 D Y y A:Value} (h:C8 w b a0 a1 a2 a3 D Y y A) (x:Value):C8 (w.setCell ⟨b,5,none⟩ x) b a0 a1 a2 a3 D x y A:=by
 obtain ⟨O,U,G,M,E,X,J,S,N⟩:=h;exact ⟨by simp [go_sem,O],by simp [go_sem,U],by simp [go_sem,G],by simp [go_sem,M],by simp [go_sem,E],by simp [go_sem,X],by simp [go_sem,J],by simp [go_sem,S],fun j=>by simpa using N j⟩
theorem C8.p7 {w:World} {b:Nat} {a0 a1 a2 a3 D A y X:Value} (h:C8 w b a0 a1 a2 a3 D A y X) (x:Value):C8 (w.setCell ⟨b,7,none⟩ x) b a0 a1 a2 a3 D A y x:=by
 obtain ⟨O,U,G,M,E,Y,J,S,N⟩:=h;exact ⟨by simp [go_sem,O],by simp [go_sem,U],by simp [go_sem,G],by simp [go_sem,M],by simp [go_sem,E],by simp [go_sem,Y],by simp [go_sem,J],by simp [go_sem,S],fun j=>by simpa using N j⟩
end Go.Proofs.YtmfehflibkokbaaGreatDoor
