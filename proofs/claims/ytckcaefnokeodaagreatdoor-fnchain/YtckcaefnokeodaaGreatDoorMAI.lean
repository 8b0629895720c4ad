import Derived.Shelf.Bytes.SlIndexSmall
import Derived.Shelf.Bytes.SlIndexWhole
import Derived.Test.YtckcaefnokeodaaGreatDoorMAH
set_option maxHeartbeats 16000000
set_option maxRecDepth 100000
namespace Go.Proofs.YtckcaefnokeodaaGreatDoor
open Go.Proofs.Tryz List World
section
open Go.RowKit
def aU (p:Nod):Bool:=
 decide (0<=p.k/\p.k<=6)&&(p.L.all gM&&(p.tail.all gM&&(p.key.all cD&&(p.U.all cD&&((p.mem||decide (p.key=[]))&&((if p.k=3 then oP p.X else decide (p.X=[]))&&((decide (p.k=4)||decide (p.U=[]))&&((decide (5<=p.k)||(decide (p.C=0)&&decide (p.tail=[])))&&decide (0<=p.C)))))))))
theorem rL (p):aU p=true ↔ fS gM oP p:=by
 unfold aU fS;simp only [Bool.and_eq_true,Bool.or_eq_true,decide_eq_true_eq];constructor
 .rintro ⟨H,I,J,D,E,G,A,F,N,h⟩;refine ⟨H,I,J,D,E,G,fun e=>?_,fun e=>?_,fun e=>F.resolve_left e,fun e=>N.resolve_left (by omega),h⟩
  .rw [if_pos e] at A;exact A
  .rw [if_neg e] at A;exact of_decide_eq_true A
 .rintro ⟨H,I,J,D,E,G,A,F,N,h,M⟩;refine ⟨H,I,J,D,E,G,?_,?_,?_,M⟩
  .by_cases e:p.k=3
   .rw [if_pos e];exact A e
   .rw [if_neg e];exact decide_eq_true (F e)
  .by_cases e:p.k=4
   .exact .inl e
   .exact .inr (N e)
  .by_cases e:5<=p.k
   .exact .inl e
   .exact .inr (h (by omega))
theorem iM (p:Nod) (M:0<=p.k/\p.k<=6) (N:p.L.all gM=true) (J:p.tail.all gM=true) (D:p.key.all cD=true) (E:p.U.all cD=true) (I:p.mem=true\/p.key=[]) (H:p.k=3->oP p.X=true) (h:p.k≠3->p.X=[]) (F:p.k≠4->p.U=[]) (G:p.k<5->p.C=0/\p.tail=[]) (A:0<=p.C):aU p=true:=
 (rL p).2 ⟨M,N,J,D,E,I,H,h,F,G,A⟩
structure zM (p:Nod):Prop where
 l:p.L.length<=1048576/\zI p.L
 t:p.tail.length<=1048576/\zI p.tail
 k:p.key.length<=1048576
 x:p.X.length<=1048576/\Bys p.X
 u:p.U.length<=1048576
structure N8 (W:World) (b:Nat) (p:Nod) (lv kv xv uv tv:Value):Prop where
 c0:W.cell? ⟨b,0,none⟩=some (.int .i64 p.k)
 c1:W.cell? ⟨b,1,none⟩=some lv
 c2:W.cell? ⟨b,2,none⟩=some (.bool p.mem)
 c3:W.cell? ⟨b,3,none⟩=some kv
 c4:W.cell? ⟨b,4,none⟩=some xv
 c5:W.cell? ⟨b,5,none⟩=some uv
 c6:W.cell? ⟨b,6,none⟩=some (.int .i64 p.C)
 c7:W.cell? ⟨b,7,none⟩=some tv
theorem N8.K {W D b p lv A F G E} (h:N8 W b p lv A F G E) (g:W.grownBy D none):N8 D b p lv A F G E:=
 ⟨g.cell h.c0 (by simp),g.cell h.c1 (by simp),g.cell h.c2 (by simp),g.cell h.c3 (by simp),g.cell h.c4 (by simp),g.cell h.c5 (by simp),g.cell h.c6 (by simp),g.cell h.c7 (by simp)⟩
theorem aC9 (p:Nod) (lv kv xv uv tv) (B:Nat) (w:World) (hB:B<=w.heap.size) (hl:RdC B w lv p.L) (hk:RdI B w kv p.key) (sk:Sl kv p.key.length) (hx:RdB B w xv p.X) (sx:Sl xv p.X.length) (hu:RdI B w uv p.U) (su:Sl uv p.U.length) (ht:RdC B w tv p.tail) (ho:zM p) :
  Calls prog 39 #[.agg #[.int .i64 p.k,lv,.bool p.mem,kv,xv,uv,.int .i64 p.C,tv]] w fun e w'=>e=.returned (.bool (aU p))/\w.grownBy w' none:=by
 have HL:=aB (fun (w':World) (g:w.grownBy w' none)=>lQ lv p.L w' ((hl.K g).wide (Nat.le_trans hB g.size)) ho.l.1 ho.l.2);have HT:=aB (fun (w':World) (g:w.grownBy w' none)=>lQ tv p.tail w' ((ht.K g).wide (Nat.le_trans hB g.size)) ho.t.1 ho.t.2);have HK:=aB (fun (w':World) (g:w.grownBy w' none)=>tP kv p.key w' ((hk.K g).wideC (Nat.le_trans hB g.size)) (by have:=ho.k;omega));have HU:=aB (fun (w':World) (g:w.grownBy w' none)=>tP uv p.U w' ((hu.K g).wideC (Nat.le_trans hB g.size)) (by have:=ho.u;omega));have HX:=aB (fun (w':World) (g:w.grownBy w' none)=>xT xv p.X w' ((hx.K g).wideC (Nat.le_trans hB g.size)) ho.x.2 ho.x.1);obtain ⟨la,a8,f4,_,_⟩:=hl.sl;obtain ⟨ta,a5,c7,_,_⟩:=ht.sl;obtain ⟨ka,a3,d4,_,_⟩:=sk;obtain ⟨xa,a6,c8,_,_⟩:=sx;obtain ⟨ua,a4,c3,_,_⟩:=su;have l1:=ho.k;have l2:=ho.u;have l3:=ho.x.1;have l4:=ho.t.1;subst f4 c7 d4 c8 c3;clear hl hk hx hu ht ho
 by_cases hr:0<=p.k/\p.k<=6
 .obtain ⟨Z,Y⟩:=hr;have G:Hid (w.grownBy (w.alloc (Obj.cells #[.int .i64 p.k,.slice la p.L.length a8,.bool p.mem,.slice ka p.key.length a3,.slice xa p.X.length a6,.slice ua p.U.length a4,.int .i64 p.C,.slice ta p.tail.length a5] 49)) none):=gWA
  have N8:N8 (w.alloc (Obj.cells #[.int .i64 p.k,.slice la p.L.length a8,.bool p.mem,.slice ka p.key.length a3,.slice xa p.X.length a6,.slice ua p.U.length a4,.int .i64 p.C,.slice ta p.tail.length a5] 49)) w.heap.size p (.slice la p.L.length a8) (.slice ka p.key.length a3) (.slice xa p.X.length a6) (.slice ua p.U.length a4) (.slice ta p.tail.length a5):=
   ⟨by simp [go_sem],by simp [go_sem],by simp [go_sem],by simp [go_sem],by simp [go_sem],by simp [go_sem],by simp [go_sem],by simp [go_sem]⟩
  go_enter func39,ntmps39
  go_wp2_with fail
  refine (HL.out _ G.out).mono ?_;rintro e w1 ⟨rfl,g1⟩;have N8:=N8.K g1;obtain ⟨q0,q1,q2,q3,q4,q5,q6,q7⟩:=id N8;have G:=aB (aA G.out g1);clear g1;cases hL:p.L.all gM with
  | false=>
    have A:Hid (aU p=false):=(by unfold Hid aU;simp [hL]);go_wp2;go_ret;exact ⟨by rw [A.out];first | rfl | simp [A.out],G.out⟩
  | true=>
    go_wp2_with fail
    refine (HT.out _ G.out).mono ?_;rintro e w2 ⟨rfl,g2⟩;have N8:=N8.K g2;obtain ⟨q0,q1,q2,q3,q4,q5,q6,q7⟩:=id N8;have G:=aB (aA G.out g2);clear g2;cases hT:p.tail.all gM with
    | false=>
      have A:Hid (aU p=false):=(by unfold Hid aU;simp [hT]);go_wp2;go_ret;exact ⟨by rw [A.out];first | rfl | simp [A.out],G.out⟩
    | true=>
      go_wp2_with fail
      refine (HK.out _ G.out).mono ?_;rintro e w3 ⟨rfl,g3⟩;have N8:=N8.K g3;obtain ⟨q0,q1,q2,q3,q4,q5,q6,q7⟩:=id N8;have G:=aB (aA G.out g3);clear g3;cases hK:p.key.all cD with
      | false=>
        have A:Hid (aU p=false):=(by unfold Hid aU;simp [hK]);go_wp2;go_ret;exact ⟨by rw [A.out];first | rfl | simp [A.out],G.out⟩
      | true=>
        go_wp2_with fail
        refine (HU.out _ G.out).mono ?_;rintro e w4 ⟨rfl,g4⟩;have N8:=N8.K g4;obtain ⟨q0,q1,q2,q3,q4,q5,q6,q7⟩:=id N8;have G:=aB (aA G.out g4);clear g4;cases hU:p.U.all cD with
        | false=>
          have A:Hid (aU p=false):=(by unfold Hid aU;simp [hU]);go_wp2;go_ret;exact ⟨by rw [A.out];first | rfl | simp [A.out],G.out⟩
        | true=>
          cases hm:p.mem with
          | true=>
            by_cases O:p.k=3
            .have b7:(p.k==3)=true:=by simpa using O
             go_wp2_with fail
             refine (HX.out _ G.out).mono ?_;rintro e w9 ⟨rfl,rfl⟩;cases hX:oP p.X with
             | false=>
               have A:Hid (aU p=false):=(by unfold Hid aU;simp [O,hX]);go_wp2;go_ret;exact ⟨by rw [A.out];first | rfl | simp [A.out],G.out⟩
             | true=>
               have a9:(p.k != 4)=true:=(by rw [O];rfl);have S:¬ p.k=4:=by omega
               by_cases F:p.U=[]
               .have a1:(p.U.length:Int)=0:=(by rw [F];rfl);have h5:p.k<5:=by omega
                .have H:¬ 5<=p.k:=by omega
                 by_cases D:p.C=0
                 .have J:(p.C != 0)=false:=by simpa using D
                  by_cases E:p.tail=[]
                  .have M:(p.tail.length:Int)=0:=(by rw [E];rfl);have A:Hid (aU p=true):=iM p ⟨Z,Y⟩ hL hT hK hU (by first | exact .inl hm | exact .inr N) (by intro e;first | exact hX | omega) (by intro e;first | exact I | exact absurd O e) (by intro e;first | exact F | exact absurd S e) (by intro e;first | exact ⟨D,E⟩ | omega) (by first | exact D | omega);go_wp2;go_ret;exact ⟨by rw [A.out];first | rfl | simp [A.out],G.out⟩
                  .have M:¬ (p.tail.length:Int)=0:=fun h=>E (eq_nil_of_length_eq_zero (by omega));have A:Hid (aU p=false):=(by unfold Hid aU;simp [H,E]);go_wp2;go_ret;exact ⟨by rw [A.out];first | rfl | simp [A.out],G.out⟩
                 .have J:(p.C != 0)=true:=(by simpa using D);have A:Hid (aU p=false):=(by unfold Hid aU;simp [H,D]);go_wp2;go_ret;exact ⟨by rw [A.out];first | rfl | simp [A.out],G.out⟩
               .have a1:¬ (p.U.length:Int)=0:=fun h=>F (eq_nil_of_length_eq_zero (by omega));have A:Hid (aU p=false):=(by unfold Hid aU;simp [S,F]);go_wp2;go_ret;exact ⟨by rw [A.out];first | rfl | simp [A.out],G.out⟩
            .have b7:(p.k==3)=false:=by simpa using O
             by_cases I:p.X=[]
             .have b6:(p.X.length:Int)=0:=by rw [I];rfl
              by_cases S:p.k=4
              .have a9:(p.k != 4)=false:=(by simpa using S);have h5:p.k<5:=by omega
               .have H:¬ 5<=p.k:=by omega
                by_cases D:p.C=0
                .have J:(p.C != 0)=false:=by simpa using D
                 by_cases E:p.tail=[]
                 .have M:(p.tail.length:Int)=0:=(by rw [E];rfl);have A:Hid (aU p=true):=iM p ⟨Z,Y⟩ hL hT hK hU (by first | exact .inl hm | exact .inr N) (by intro e;first | exact hX | omega) (by intro e;first | exact I | exact absurd O e) (by intro e;first | exact F | exact absurd S e) (by intro e;first | exact ⟨D,E⟩ | omega) (by first | exact D | omega);go_wp2;go_ret;exact ⟨by rw [A.out];first | rfl | simp [A.out],G.out⟩
                 .have M:¬ (p.tail.length:Int)=0:=fun h=>E (eq_nil_of_length_eq_zero (by omega));have A:Hid (aU p=false):=(by unfold Hid aU;simp [H,E]);go_wp2;go_ret;exact ⟨by rw [A.out];first | rfl | simp [A.out],G.out⟩
                .have J:(p.C != 0)=true:=(by simpa using D);have A:Hid (aU p=false):=(by unfold Hid aU;simp [H,D]);go_wp2;go_ret;exact ⟨by rw [A.out];first | rfl | simp [A.out],G.out⟩
              .have a9:(p.k != 4)=true:=by simpa using S
               by_cases F:p.U=[]
               .have a1:(p.U.length:Int)=0:=by rw [F];rfl
                by_cases h5:p.k<5
                .have H:¬ 5<=p.k:=by omega
                 by_cases D:p.C=0
                 .have J:(p.C != 0)=false:=by simpa using D
                  by_cases E:p.tail=[]
                  .have M:(p.tail.length:Int)=0:=(by rw [E];rfl);have A:Hid (aU p=true):=iM p ⟨Z,Y⟩ hL hT hK hU (by first | exact .inl hm | exact .inr N) (by intro e;first | exact hX | omega) (by intro e;first | exact I | exact absurd O e) (by intro e;first | exact F | exact absurd S e) (by intro e;first | exact ⟨D,E⟩ | omega) (by first | exact D | omega);go_wp2;go_ret;exact ⟨by rw [A.out];first | rfl | simp [A.out],G.out⟩
                  .have M:¬ (p.tail.length:Int)=0:=fun h=>E (eq_nil_of_length_eq_zero (by omega));have A:Hid (aU p=false):=(by unfold Hid aU;simp [H,E]);go_wp2;go_ret;exact ⟨by rw [A.out];first | rfl | simp [A.out],G.out⟩
                 .have J:(p.C != 0)=true:=(by simpa using D);have A:Hid (aU p=false):=(by unfold Hid aU;simp [H,D]);go_wp2;go_ret;exact ⟨by rw [A.out];first | rfl | simp [A.out],G.out⟩
                .have H:5<=p.k:=by omega
                 by_cases D:0<=p.C
                 .have b5:¬ p.C<0:=(by omega);have A:Hid (aU p=true):=iM p ⟨Z,Y⟩ hL hT hK hU (by first | exact .inl hm | exact .inr N) (by intro e;first | exact hX | omega) (by intro e;first | exact I | exact absurd O e) (by intro e;first | exact F | exact absurd S e) (by intro e;first | exact ⟨D,E⟩ | omega) (by first | exact D | omega);go_wp2;go_ret;exact ⟨by rw [A.out];first | rfl | simp [D],G.out⟩
                 .have b5:p.C<0:=(by omega);have A:Hid (aU p=false):=(by unfold Hid aU;simp [D]);go_wp2;go_ret;exact ⟨by rw [A.out];first | rfl | simp [D],G.out⟩
               .have a1:¬ (p.U.length:Int)=0:=fun h=>F (eq_nil_of_length_eq_zero (by omega));have A:Hid (aU p=false):=(by unfold Hid aU;simp [S,F]);go_wp2;go_ret;exact ⟨by rw [A.out];first | rfl | simp [A.out],G.out⟩
             .have b6:¬ (p.X.length:Int)=0:=fun h=>I (eq_nil_of_length_eq_zero (by omega));have A:Hid (aU p=false):=(by unfold Hid aU;simp [O,I]);go_wp2;go_ret;exact ⟨by rw [A.out];first | rfl | simp [A.out],G.out⟩
          | false=>
            by_cases N:p.key=[]
            .have d7:(p.key.length:Int)=0:=by rw [N];rfl
             by_cases O:p.k=3
             .have b7:(p.k==3)=true:=by simpa using O
              go_wp2_with fail
              refine (HX.out _ G.out).mono ?_;rintro e w9 ⟨rfl,rfl⟩;cases hX:oP p.X with
              | false=>
                have A:Hid (aU p=false):=(by unfold Hid aU;simp [O,hX]);go_wp2;go_ret;exact ⟨by rw [A.out];first | rfl | simp [A.out],G.out⟩
              | true=>
                have a9:(p.k != 4)=true:=(by rw [O];rfl);have S:¬ p.k=4:=by omega
                by_cases F:p.U=[]
                .have a1:(p.U.length:Int)=0:=(by rw [F];rfl);have h5:p.k<5:=by omega
                 .have H:¬ 5<=p.k:=by omega
                  by_cases D:p.C=0
                  .have J:(p.C != 0)=false:=by simpa using D
                   by_cases E:p.tail=[]
                   .have M:(p.tail.length:Int)=0:=(by rw [E];rfl);have A:Hid (aU p=true):=iM p ⟨Z,Y⟩ hL hT hK hU (by first | exact .inl hm | exact .inr N) (by intro e;first | exact hX | omega) (by intro e;first | exact I | exact absurd O e) (by intro e;first | exact F | exact absurd S e) (by intro e;first | exact ⟨D,E⟩ | omega) (by first | exact D | omega);go_wp2;go_ret;exact ⟨by rw [A.out];first | rfl | simp [A.out],G.out⟩
                   .have M:¬ (p.tail.length:Int)=0:=fun h=>E (eq_nil_of_length_eq_zero (by omega));have A:Hid (aU p=false):=(by unfold Hid aU;simp [H,E]);go_wp2;go_ret;exact ⟨by rw [A.out];first | rfl | simp [A.out],G.out⟩
                  .have J:(p.C != 0)=true:=(by simpa using D);have A:Hid (aU p=false):=(by unfold Hid aU;simp [H,D]);go_wp2;go_ret;exact ⟨by rw [A.out];first | rfl | simp [A.out],G.out⟩
                .have a1:¬ (p.U.length:Int)=0:=fun h=>F (eq_nil_of_length_eq_zero (by omega));have A:Hid (aU p=false):=(by unfold Hid aU;simp [S,F]);go_wp2;go_ret;exact ⟨by rw [A.out];first | rfl | simp [A.out],G.out⟩
             .have b7:(p.k==3)=false:=by simpa using O
              by_cases I:p.X=[]
              .have b6:(p.X.length:Int)=0:=by rw [I];rfl
               by_cases S:p.k=4
               .have a9:(p.k != 4)=false:=(by simpa using S);have h5:p.k<5:=by omega
                .have H:¬ 5<=p.k:=by omega
                 by_cases D:p.C=0
                 .have J:(p.C != 0)=false:=by simpa using D
                  by_cases E:p.tail=[]
                  .have M:(p.tail.length:Int)=0:=(by rw [E];rfl);have A:Hid (aU p=true):=iM p ⟨Z,Y⟩ hL hT hK hU (by first | exact .inl hm | exact .inr N) (by intro e;first | exact hX | omega) (by intro e;first | exact I | exact absurd O e) (by intro e;first | exact F | exact absurd S e) (by intro e;first | exact ⟨D,E⟩ | omega) (by first | exact D | omega);go_wp2;go_ret;exact ⟨by rw [A.out];first | rfl | simp [A.out],G.out⟩
                  .have M:¬ (p.tail.length:Int)=0:=fun h=>E (eq_nil_of_length_eq_zero (by omega));have A:Hid (aU p=false):=(by unfold Hid aU;simp [H,E]);go_wp2;go_ret;exact ⟨by rw [A.out];first | rfl | simp [A.out],G.out⟩
                 .have J:(p.C != 0)=true:=(by simpa using D);have A:Hid (aU p=false):=(by unfold Hid aU;simp [H,D]);go_wp2;go_ret;exact ⟨by rw [A.out];first | rfl | simp [A.out],G.out⟩
               .have a9:(p.k != 4)=true:=by simpa using S
                by_cases F:p.U=[]
                .have a1:(p.U.length:Int)=0:=by rw [F];rfl
                 by_cases h5:p.k<5
                 .have H:¬ 5<=p.k:=by omega
                  by_cases D:p.C=0
                  .have J:(p.C != 0)=false:=by simpa using D
                   by_cases E:p.tail=[]
                   .have M:(p.tail.length:Int)=0:=(by rw [E];rfl);have A:Hid (aU p=true):=iM p ⟨Z,Y⟩ hL hT hK hU (by first | exact .inl hm | exact .inr N) (by intro e;first | exact hX | omega) (by intro e;first | exact I | exact absurd O e) (by intro e;first | exact F | exact absurd S e) (by intro e;first | exact ⟨D,E⟩ | omega) (by first | exact D | omega);go_wp2;go_ret;exact ⟨by rw [A.out];first | rfl | simp [A.out],G.out⟩
                   .have M:¬ (p.tail.length:Int)=0:=fun h=>E (eq_nil_of_length_eq_zero (by omega));have A:Hid (aU p=false):=(by unfold Hid aU;simp [H,E]);go_wp2;go_ret;exact ⟨by rw [A.out];first | rfl | simp [A.out],G.out⟩
                  .have J:(p.C != 0)=true:=(by simpa using D);have A:Hid (aU p=false):=(by unfold Hid aU;simp [H,D]);go_wp2;go_ret;exact ⟨by rw [A.out];first | rfl | simp [A.out],G.out⟩
                 .have H:5<=p.k:=by omega
                  by_cases D:0<=p.C
                  .have b5:¬ p.C<0:=(by omega);have A:Hid (aU p=true):=iM p ⟨Z,Y⟩ hL hT hK hU (by first | exact .inl hm | exact .inr N) (by intro e;first | exact hX | omega) (by intro e;first | exact I | exact absurd O e) (by intro e;first | exact F | exact absurd S e) (by intro e;first | exact ⟨D,E⟩ | omega) (by first | exact D | omega);go_wp2;go_ret;exact ⟨by rw [A.out];first | rfl | simp [D],G.out⟩
                  .have b5:p.C<0:=(by omega);have A:Hid (aU p=false):=(by unfold Hid aU;simp [D]);go_wp2;go_ret;exact ⟨by rw [A.out];first | rfl | simp [D],G.out⟩
                .have a1:¬ (p.U.length:Int)=0:=fun h=>F (eq_nil_of_length_eq_zero (by omega));have A:Hid (aU p=false):=(by unfold Hid aU;simp [S,F]);go_wp2;go_ret;exact ⟨by rw [A.out];first | rfl | simp [A.out],G.out⟩
              .have b6:¬ (p.X.length:Int)=0:=fun h=>I (eq_nil_of_length_eq_zero (by omega));have A:Hid (aU p=false):=(by unfold Hid aU;simp [O,I]);go_wp2;go_ret;exact ⟨by rw [A.out];first | rfl | simp [A.out],G.out⟩
            .have d7:¬ (p.key.length:Int)=0:=fun h=>N (eq_nil_of_length_eq_zero (by omega));have A:Hid (aU p=false):=(by unfold Hid aU;simp [hm,N]);go_wp2;go_ret;exact ⟨by rw [A.out];first | rfl | simp [A.out],G.out⟩
 .have A:Hid (aU p=false):=by unfold Hid aU;rw [decide_eq_false hr];rfl
  by_cases h0:p.k<0
  .go_enter func39,ntmps39
   go_wp2;go_ret;exact ⟨by rw [A.out];rfl,gWA⟩
  .have h6:6<p.k:=by omega
   go_enter func39,ntmps39
   go_wp2;go_ret;exact ⟨by rw [A.out];rfl,gWA⟩
theorem sT {σ:Type} (f:σ->Option σ):∀ (a b:Nat) (s:σ),aN f (a+b) s=(aN f a s).bind (aN f b)
 | 0,b,s=>by simp [aN]
 | a+1,b,s=>by
   rw [show a+1+b=(a+b)+1 by omega];simp only [aN];cases f s with
   | none=>rfl
   | some s'=>exact sT f a b s'
theorem qD {σ:Type} (f:σ->Option σ) (k:Nat) (s):aN f (k+1) s=(aN f k s).bind f:=by
 rw [sT f k 1 s];cases aN f k s with
 | none=>rfl
 | some s'=>simp only [Option.bind_some,aN];cases f s'<;>rfl
theorem uN (E:Nat) (d m) (D:List Nod) (H:D.length<=E) (j) (R:List Nod) (h:iK E d m (D.drop j)=some R):∃ i,i<=D.length/\R=D.drop i:=by
 have G:=qY E d m (D.drop j) (by simp;omega);rw [h] at G;obtain ⟨P,r⟩:=(cB bD d m).2 (D.drop j) R G.symm;have F:D=(D.take j++P)++R:=(by rw [append_assoc,<- r,take_append_drop]);generalize D.take j++P=A at F;refine ⟨A.length,by rw [F];simp,by rw [F];simp⟩
def dD (len:Nat):Option (List Nod)->Int
 | none=>-1
 | some R=>len - R.length
theorem aCJ (t:Tre) (hn:t.N.length<=1048576) (hc:∀ p∈t.N,p.k<5->p.C=0) (hb:∀ p∈t.N,-9223372036854775808<=p.C/\p.C<=9223372036854775807):∀ (d:Nat),d<=201->∀ (i:Nat) (m:Bool) (nv tv:Value) (w:World),i<=t.N.length->eV w.heap.size w nv tv t->
  Calls prog 40 #[.agg #[nv,tv],.int .i64 i,.bool m,.int .i64 d] w fun e w'=>e=.returned (.int .i64 (dD t.N.length (iK t.N.length (d+1) m (t.N.drop i))))/\w.grownBy w' none:=by
 intro d
 induction d using Nat.strongRecOn with
 | ind d ih=>
   intro hd i m nv tv w hi hv;obtain ⟨b6,c0⟩:=id hv;obtain ⟨na,E,c7,_⟩:=id b6;obtain ⟨ta,F,f3,_⟩:=id c0;have HV:=aB hv;have IH:=aB ih;subst c7 f3;clear b6 c0 hv ih
   by_cases Z:i<t.N.length
   .obtain ⟨b,I,f8,lv,kv,xv,uv,g9,f6,h1,H⟩:=HV.out.1.at i Z;cases f6;have z0:=H.k;have z1:=H.L;have z2:=H.mem;have z3:=H.key;have z4:=H.X;have z5:=H.U;have z6:=H.C;have z7:=H.tail;obtain ⟨la,a6,b9,_,_⟩:=H.rl.sl;obtain ⟨qa,a3,c2,_,_⟩:=H.rt.sl;obtain ⟨ka,a0,b4,_,_⟩:=H.sk;obtain ⟨xa,a5,b3,_,_⟩:=H.sx;obtain ⟨ua,a2,b1,_,_⟩:=H.su;have a7:=hc _ (getElem_mem Z);have a8:=hb _ (getElem_mem Z);have Y:t.N.drop i=t.N[i]::t.N.drop (i+1):=drop_eq_getElem_cons Z;have aw:∀ (n:Nat),w.grownBy ((w.alloc (Obj.cells #[.slice (some ⟨b,I,none⟩) t.N.length E,.slice ta t.tail.length F] 26)).drewN n) none:=fun n=>cA gWA n;have d0:=(grownBy_alloc w (Obj.cells #[.slice (some ⟨b,I,none⟩) t.N.length E,.slice ta t.tail.length F] 26) none).cell z2 (by simp)
    by_cases hm:t.N[i].mem=m
    .subst hm
     have D:iK t.N.length (d+1) t.N[i].mem (t.N.drop i)=if ((t.N.length:Int)<t.N[i].C\/(5<=t.N[i].k/\d=0)) then none else aN (iK t.N.length d (decide (t.N[i].k=6))) t.N[i].C.toNat (t.N.drop (i+1)):=by
      rw [Y];simp only [iK,ne_eq,not_true_eq_false,if_false]
     subst b9 c2 b4 b3 b1;clear H
     by_cases S:(t.N.length:Int)<t.N[i].C\/(5<=t.N[i].k/\d=0)
     .rw [if_pos S] at D;have J:Hid (dD t.N.length (iK t.N.length (d+1) t.N[i].mem (t.N.drop i)) = -1):=(by unfold Hid;rw [D];rfl);clear D Y;generalize t.N[i]=p at *
      by_cases d9:(t.N.length:Int)<p.C
      .go_enter func40,ntmps40
       go_wp2;go_ret;exact ⟨by rw [J.out];rfl,aA gWA gWA⟩
      .obtain ⟨b5,f4⟩:=S.resolve_left d9;subst f4
       go_enter func40,ntmps40
       go_wp2;go_ret;exact ⟨by rw [J.out];rfl,aA gWA gWA⟩
     .rw [if_neg S] at D;obtain ⟨b8,a4⟩:=not_or.1 S;have c6:t.N[i].C<=t.N.length:=(by omega);have d3:5<=t.N[i].k->d≠0:=fun h e=>a4 ⟨h,e⟩;have M:=aB D;have f2:=aB a7;clear D Y S b8 a4 a7;have g5:=a8.1;have h6:=a8.2;generalize t.N[i]=p at *
      by_cases b5:5<=p.k
      .have h7:=d3 b5;have h5:(0:Int)<d:=(by omega);have h4:((d:Int)==0)=false:=by simp;omega
       go_enter func40,ntmps40
       go_wp2
       have HC:Hid (∀ wr:World,((w.alloc (Obj.cells #[.slice (some ⟨b,I,none⟩) t.N.length E,.slice ta t.tail.length F] 26)).alloc (Obj.cells #[.int .i64 p.k,.slice la p.L.length a6,.bool p.mem,.slice ka p.key.length a0,.slice xa p.X.length a5,.slice ua p.U.length a2,.int .i64 p.C,.slice qa p.tail.length a3] 49)).grownBy wr none->(wr.cell? ⟨w.heap.size,0,none⟩=some (.slice (some ⟨b,I,none⟩) t.N.length E)/\wr.cell? ⟨w.heap.size,1,none⟩=some (.slice ta t.tail.length F))/\wr.cell? ⟨w.heap.size+1,0,none⟩=some (.int .i64 p.k)/\wr.cell? ⟨w.heap.size+1,6,none⟩=some (.int .i64 p.C)):=fun wr g=>
        ⟨⟨g.cell (by simp [go_sem]) (by simp),g.cell (by simp [go_sem]) (by simp)⟩,g.cell (by simp [go_sem]) (by simp),g.cell (by simp [go_sem]) (by simp)⟩
       go_loopw [10,11] (fun c5 kk wr=>∃ k j:Nat,kk=.int .i64 k/\c5=.int .i64 j/\(k:Int)<=p.C.toNat/\j<=t.N.length/\Hid (aN (iK t.N.length d (decide (p.k=6))) k (t.N.drop (i+1))=some (t.N.drop j))/\((w.alloc (Obj.cells #[.slice (some ⟨b,I,none⟩) t.N.length E,.slice ta t.tail.length F] 26)).alloc (Obj.cells #[.int .i64 p.k,.slice la p.L.length a6,.bool p.mem,.slice ka p.key.length a0,.slice xa p.X.length a5,.slice ua p.U.length a2,.int .i64 p.C,.slice qa p.tail.length a3] 49)).grownBy wr none) (fun _ kk _=>p.C.toNat - (intOf kk).toNat)
       case atStart=>exact ⟨0,i+1,rfl,by go_num,by omega,by omega,rfl,grownBy.refl _ _⟩
       case round=>
        obtain ⟨k,j,rfl,rfl,hk,hj,HL,O⟩:=hrel;obtain ⟨⟨y0,y1⟩,y2,y3⟩:=HC.out wr O;have G:=aA (aA (grownBy_alloc w _ none) (grownBy_alloc _ _ none)) O
        by_cases g7:(k:Int)<p.C
        .have CI:=aB (IH.out (d - 1) (by omega) (by omega) j (decide (p.k=6)) (.slice (some ⟨b,I,none⟩) t.N.length E) (.slice ta t.tail.length F) wr hj ⟨(HV.out.1.K G).wide G.size,(HV.out.2.K G).wide G.size⟩);rw [show d - 1+1=d by omega,show ((d - 1:Nat):Int)=(d:Int) - 1 by omega] at CI;have HG:=aB G;have d6:=aB O;clear O G;cases A:iK t.N.length d (decide (p.k=6)) (t.N.drop j) with
         | none=>
           rw [A] at CI
           have J:Hid (dD t.N.length (iK t.N.length (d+1) p.mem (t.N.drop i)) = -1):=by
            unfold Hid;rw [M.out,show p.C.toNat=k+((p.C.toNat - k - 1)+1) by omega,sT,HL.out,Option.bind_some];simp only [aN,A,Option.bind_none,dD]
           clear A
           go_wp2_with fail
           refine CI.out.mono ?_;rintro e w2 ⟨rfl,g2⟩;simp only [dD];go_wp2;go_ret;exact ⟨by rw [J.out];rfl,aA HG.out g2⟩
         | some R=>
           rw [A] at CI;obtain ⟨j',c4,hR⟩:=uN t.N.length d _ t.N (Nat.le_refl _) j R A;subst hR;have a1:dD t.N.length (some (t.N.drop j'))=(j':Int):=(by simp only [dD,length_drop];omega);rw [a1] at CI
           have d4:Hid (aN (iK t.N.length d (decide (p.k=6))) (k+1) (t.N.drop (i+1))=some (t.N.drop j')):=by
            unfold Hid;rw [qD,HL.out,Option.bind_some];exact A
           clear A a1
           go_wp2_with fail
           refine CI.out.mono ?_;rintro e w2 ⟨rfl,g2⟩;go_wp2
           go_roundw
           case rel=>exact ⟨k+1,j',by go_num,rfl,by omega,c4,d4,aA d6.out g2⟩
           case measure=>simp [intOf];omega
        .have c1:p.C.toNat=k:=by omega
         have J:Hid (dD t.N.length (iK t.N.length (d+1) p.mem (t.N.drop i))=j):=by
          unfold Hid;rw [M.out,c1,HL.out];simp only [dD,length_drop];omega
         have HG:=aB G;clear O G c1;go_wp2;go_ret;exact ⟨by rw [J.out];rfl,HG.out⟩
      .have b2:=f2.out (by omega)
       have J:Hid (dD t.N.length (iK t.N.length (d+1) p.mem (t.N.drop i))=(i:Int)+1):=by
        unfold Hid;rw [M.out,b2];simp only [Int.toNat_zero,aN,dD,length_drop];omega
       rw [b2] at z6
       go_enter func40,ntmps40
       go_wp2;refine wp_loop_rounds 1 ?_;rw [rounds_succ];go_wp2;go_ret;exact ⟨by rw [J.out];rfl,aA gWA gWA⟩
    .have J:Hid (dD t.N.length (iK t.N.length (d+1) m (t.N.drop i)) = -1):=by
      unfold Hid;rw [Y];simp [iK,hm,dD]
     have b7:t.N[i].mem = !m:=(by cases hq:t.N[i].mem<;>cases m<;>simp_all);rw [b7] at z2;clear d0;subst b9 c2 b4 b3 b1;clear H hm b7 a7 a8 Y;generalize t.N[i]=p at *;cases m <;>
     .simp only [Bool.not_true,Bool.not_false] at z2
      go_enter func40,ntmps40
      go_wp2;go_ret;exact ⟨by rw [J.out];rfl,gWA⟩
   .have J:Hid (dD t.N.length (iK t.N.length (d+1) m (t.N.drop i)) = -1):=by
     unfold Hid;rw [drop_eq_nil_of_le (by omega)];rfl
    have h2:(t.N.length:Int)<=i:=by omega
    go_enter func40,ntmps40
    go_wp2;go_ret;exact ⟨by rw [J.out];rfl,gWA⟩
theorem fG (p:Int) (w):Calls prog 149 #[.int .i64 p] w fun e D=>e=.returned (.bool (cD p))/\w=D:=by
 by_cases A:0<=p
 .by_cases E:p<65536
  .have h:Hid (cD p=true):=by simp [Hid,cD,A,E]
   go_enter func149,ntmps149
   go_wp2;go_ret;exact ⟨by rw [h.out];rfl,rfl⟩
  .have h:Hid (cD p=false):=by simp [Hid,cD];omega
   go_enter func149,ntmps149
   go_wp2;go_ret;exact ⟨by rw [h.out];rfl,rfl⟩
 .have h:Hid (cD p=false):=by simp [Hid,cD];omega
  go_enter func149,ntmps149
  go_wp2;go_ret;exact ⟨by rw [h.out];rfl,rfl⟩
structure Ck (w:World) (h:Nat) (v:Value) (c r:Int):Prop where
 n:w.cell? ⟨h,0,none⟩=some v
 c:w.cell? ⟨h,1,none⟩=some (.int .i64 c)
 r:w.cell? ⟨h,2,none⟩=some (.int .i64 r)
 fn:w.frozen? ⟨h,0,none⟩=false
 fc:w.frozen? ⟨h,1,none⟩=false
 fr:w.frozen? ⟨h,2,none⟩=false
theorem iI {W:World} {A a} {v:Value} (D:W.grownBy A none) (h:W.cell? a=some v) (E:W.frozen? a=false):A.cell? a=some v/\A.frozen? a=false:=
 ⟨D.cell h (by simp),(frozen?_of_block (D.block a.block (block_lt_of_cell? W a h) (by simp))).trans E⟩
theorem lH (w:World) (a u):w.grownBy (w.setCell a u) (some a.block):=
 ⟨rfl,rfl,rfl,by simp,fun i _ h=>Below.heap_setCell _ _ _ _ (fun e=>h (by rw [e]))⟩
theorem eJ {a:World} {b} (h:a.grownBy b none) (r):a.grownBy b r:=⟨h.os,h.tape,h.output,h.size,fun k A _=>h.block k A (by simp)⟩
theorem aT {a:World} {b c r} (h:a.grownBy b r) (k:b.grownBy c r):a.grownBy c r:=
 ⟨k.os.trans h.os,k.tape.trans h.tape,k.output.trans h.output,Nat.le_trans h.size k.size,fun i A D=>(k.block i (Nat.lt_of_lt_of_le A h.size) D).trans (h.block i A D)⟩
theorem Ck.lt {w h v c r} (k:Ck w h v c r):h<w.heap.size:=block_lt_of_cell? w _ k.n
theorem Ck.K {w w' h v c r} (k:Ck w h v c r) (g:w.grownBy w' none):Ck w' h v c r:=
 ⟨(iI g k.n k.fn).1,(iI g k.c k.fc).1,(iI g k.r k.fr).1,(iI g k.n k.fn).2,(iI g k.c k.fc).2,(iI g k.r k.fr).2⟩
theorem Ck.setR {w h v c r} (k:Ck w h v c r) (A:Int):Ck (w.setCell ⟨h,2,none⟩ (.int .i64 A)) h v c A:=by
 have F:=k.n;have I:=k.c;have G:=k.r;have H:=k.fn;have D:=k.fc;have E:=k.fr;exact ⟨by simp [go_sem,F],by simp [go_sem,I],by simp [go_sem,G],by simp [go_sem,H],by simp [go_sem,D],by simp [go_sem,E]⟩
theorem Ck.setC {w h v c r} (k:Ck w h v c r) (A:Int):Ck (w.setCell ⟨h,1,none⟩ (.int .i64 A)) h v A r:=by
 have F:=k.n;have I:=k.c;have G:=k.r;have H:=k.fn;have D:=k.fc;have E:=k.fr;exact ⟨by simp [go_sem,F],by simp [go_sem,I],by simp [go_sem,G],by simp [go_sem,H],by simp [go_sem,D],by simp [go_sem,E]⟩
theorem Ck.setN {w h v c r} (k:Ck w h v c r) (A):Ck (w.setCell ⟨h,0,none⟩ A) h A c r:=by
 have F:=k.n;have I:=k.c;have G:=k.r;have H:=k.fn;have D:=k.fc;have E:=k.fr;exact ⟨by simp [go_sem,F],by simp [go_sem,I],by simp [go_sem,G],by simp [go_sem,H],by simp [go_sem,D],by simp [go_sem,E]⟩
abbrev aAO (w:World) (h:Nat) (v:Value) (c r:Int) (w':World):Prop:=Ck w' h v c r/\w.grownBy w' (some h)
theorem qG (h v) (a:Option Addr) (n D:Nat) (c r w) (A:Ck w h v c r) (H:n<=1048576) (J : -1048576000<=r/\r<=1048576) :
  Calls prog 94 #[.pointer (some ⟨h,0,none⟩),.slice a n D] w fun e F=>e=.returned (.bool (decide ((n:Int)<=r)))/\aAO w h v c (r - n) F:=by
 have I:=A.r;have G:=A.fr;have E:Hid (aAO w h v c (r - n) (w.setCell ⟨h,2,none⟩ (.int .i64 (r - n)))):=⟨A.setR _,lH w ⟨h,2,none⟩ _⟩;clear A
 go_enter func94,ntmps94
 go_wp2;go_ret;exact ⟨rfl,E.out⟩
theorem yL {α:Type} (f:α->Bool) (A:List α) (k:Nat) (D:k<A.length) (h:(A.take k).all f=true) (E:f A[k]=true):(A.take (k+1)).all f=true:=by
 rw [take_add_one,getElem?_eq_getElem D,all_append,h];simp [E]
theorem aAv {α:Type} (f:α->Bool) (h:List α) (k:Nat) (A:k<h.length) (D:f h[k]=false):h.all f=false:=by
 rw [all_eq_false];exact ⟨h[k],getElem_mem A,by rw [D];simp⟩
theorem tM (h v uv A c r w) (N:Ck w h v c r) (B) (hv:RdI B w uv A) (hB:B<=h) (hn:A.length<=1048576) (hr:0<=r/\r<=1048576) :
  Calls prog 130 #[.pointer (some ⟨h,0,none⟩),uv] w fun e w'=>e=.returned (.bool (decide ((A.length:Int)<=r)&&A.all cD))/\aAO w h v c (r - A.length) w':=by
 obtain ⟨a,b9,a9,F⟩:=id hv;have a3:=N.r;have b3:=N.fr;have S:Hid (aAO w h v c (r - A.length) (w.setCell ⟨h,2,none⟩ (.int .i64 (r - A.length)))):=⟨N.setR _,lH w ⟨h,2,none⟩ _⟩;have HV:Hid (RdI B (w.setCell ⟨h,2,none⟩ (.int .i64 (r - A.length))) uv A):=hv.beside (lH w ⟨h,2,none⟩ _) (fun k e=>by cases e;exact hB);subst a9;clear N hv F
 by_cases hc:(A.length:Int)<=r
 .have a1:¬ r - (A.length:Int)<0:=(by omega);rw [decide_eq_true hc,Bool.true_and]
  go_enter func130,ntmps130
  go_wp2;obtain ⟨W1,H⟩:∃ W1,W1=w.setCell ⟨h,2,none⟩ (.int .i64 (r - A.length)):=⟨_,rfl⟩;rw [<- H] at S HV ⊢;have HW:=aB H;clear H a3 b3
  go_loopw [23] (fun i wr=>∃ k:Nat,k<=A.length/\i=.int .i64 k/\Hid ((A.take k).all cD=true)/\W1.grownBy wr none) (fun i _=>A.length - (intOf i).toNat)
  case atStart=>exact ⟨0,Nat.zero_le _,rfl,by simp [Hid],grownBy.refl _ _⟩
  case round=>
   obtain ⟨k,N,rfl,HA,D⟩:=hrel;have O:Hid (aAO w h v c (r - A.length) wr):=⟨S.out.1.K D,aT S.out.2 (eJ D _)⟩;have HG:=aB D
   by_cases E:k<A.length
   .obtain ⟨a',b4,I,F⟩:=HV.out.K D;obtain ⟨b,a7,a5,c3,M⟩:=F (fun e=>by rw [e] at E;simp at E);have a4:a=some ⟨b,a7,none⟩:=(by simp only [Value.slice.injEq] at I;rw [I.1];exact a5);subst a4;have a0:=M k E;have c2:(k:Int)<A.length:=(by omega);have G:A[k]?.getD 0=A[k]:=(by simp [E]);rw [G] at a0;have Y:=aB (fun w=>fG A[k] w);clear D I F M;cases J:cD A[k] with
    | true=>
      have HN:=aB (yL cD A k E HA.out J);rw [J] at Y;clear J G;generalize A[k]=p at *
      go_wp2_with fail
      refine (Y.out _).mono ?_;rintro e w2 ⟨rfl,rfl⟩;go_wp2
      go_roundw
      case rel=>exact ⟨k+1,by omega,by go_num,HN,HG.out⟩
      case measure=>simp [intOf];omega
    | false=>
      have Z:=aB (aAv cD A k E J);rw [J] at Y;clear J G;generalize A[k]=p at *
      go_wp2_with fail
      refine (Y.out _).mono ?_;rintro e w2 ⟨rfl,rfl⟩;go_wp2;go_ret;exact ⟨by rw [Z.out];rfl,O.out⟩
   .have Z:Hid (A.all cD=true):=by
     have:=HA.out;rw [show k=A.length by omega,take_length] at this;exact this
    clear D;go_wp2;go_ret;exact ⟨by rw [Z.out];rfl,O.out⟩
 .have a1:r - (A.length:Int)<0:=(by omega);rw [decide_eq_false hc,Bool.false_and]
  go_enter func130,ntmps130
  go_wp2;go_ret;exact ⟨rfl,S.out⟩
end
open Go.RowKit Go.Shelf
def aMI:Go.Shelf.Ren:=⟨fun | 186=>134 | 185=>154 | 187=>168 | 115=>169 | 253=>170 | 224=>171 | 254=>172 | 255=>186 | 291=>187 | n=>n,fun | 37=>22 | 4=>4 | 3=>3 | 0=>0 | 5=>5 | 46=>230 | 9=>9 | 146=>237 | 51=>236 | n=>n,fun | 1=>1 | n=>n⟩
theorem aGD:Go.Proofs.Lays.n186 prog aMI:={
 mixed:=by kernel_rfl
 f115:=func169.trans (congrArg some (by kernel_rfl))
 f185:=func154.trans (congrArg some (by kernel_rfl))
 f186:=func134.trans (congrArg some (by kernel_rfl))
 f187:=func168.trans (congrArg some (by kernel_rfl))
 f224:=func171.trans (congrArg some (by kernel_rfl))
 f253:=func170.trans (congrArg some (by kernel_rfl))
 f254:=func172.trans (congrArg some (by kernel_rfl))
 f255:=func186.trans (congrArg some (by kernel_rfl))
 f291:=func187.trans (congrArg some (by kernel_rfl))
 t0:=underlying0
 a0:=Tryz.isAgg0
 z0:=Tryz.sizeOf0
 v0:=Tryz.zeroValue0
 t3:=underlying3
 a3:=Tryz.isAgg3
 z3:=Tryz.sizeOf3
 v3:=Tryz.zeroValue3
 t4:=underlying4
 a4:=Tryz.isAgg4
 z4:=Tryz.sizeOf4
 v4:=Tryz.zeroValue4
 t5:=underlying5
 a5:=Tryz.isAgg5
 z5:=Tryz.sizeOf5
 v5:=Tryz.zeroValue5
 t9:=underlying9
 a9:=Tryz.isAgg9
 z9:=Tryz.sizeOf9
 v9:=Tryz.zeroValue9
 t37:=underlying22
 a37:=Tryz.isAgg22
 z37:=Tryz.sizeOf22
 v37:=Tryz.zeroValue22
 t46:=underlying230
 a46:=Tryz.isAgg230
 z46:=Tryz.sizeOf230
 v46:=Tryz.zeroValue230
 t51:=underlying236
 a51:=Tryz.isAgg236
 z51:=Tryz.sizeOf236
 v51:=Tryz.zeroValue236
 t146:=underlying237
 a146:=Tryz.isAgg237
 z146:=Tryz.sizeOf237
 v146:=Tryz.zeroValue237
 g1:=by kernel_rfl }
def jG:List Int->Bool
 | a::b::l=>(decide (a=42)&&decide (b=47))||jG (b::l)
 | _=>false
theorem aLO {z:Int} (D:0<=z/\z<=255) (k:Nat) (A:k<=255):(UInt8.ofNat k==z.toNat.toUInt8)=decide (z=k):=by
 rw [Bool.eq_iff_iff];simp only [beq_iff_eq,decide_eq_true_eq];constructor
 .intro h;have:=congrArg UInt8.toNat h;simp only [UInt8.toNat_ofNat',Nat.toUInt8] at this;omega
 .intro h;subst h;rfl
theorem aE2:∀ (D:List Int),Bys D->(0<=Lib.index (Lib.bytesOf D) [42,47] ↔ jG D=true)
 | [],_=>by decide
 | [z],_=>by
   have:Lib.index (Lib.bytesOf [z]) [42,47] = -1:=by
    simp [Lib.bytesOf,Lib.index,isPrefixOf]
   rw [this];simp [jG]
 | a::b::l,h=>by
   have ih:=aE2 (b::l) (fun z G=>h z (by simp [G]));have H:=aLO (h a (by simp)) 42 (by omega);have M:=aLO (h b (by simp)) 47 (by omega);have J:=Lib.index_ge (Lib.bytesOf (b::l)) [42,47];have I:Lib.bytesOf (a::b::l)=a.toNat.toUInt8::Lib.bytesOf (b::l):=rfl
   have F:([42,47]:List UInt8).isPrefixOf (a.toNat.toUInt8::Lib.bytesOf (b::l))=(decide (a=42)&&decide (b=47)):=by
    show ((UInt8.ofNat 42==a.toNat.toUInt8)&&((UInt8.ofNat 47==b.toNat.toUInt8)&&true))=_
    rw [H,M,Bool.and_true];rfl
   rw [I];unfold Lib.index jG;rw [F];cases N:(decide (a=42)&&decide (b=47)) with
   | true=>simp
   | false=>
     rw [Bool.false_or,<- ih]
     by_cases E:Lib.index (Lib.bytesOf (b::l)) [42,47] = -1
     .simp [E]
     .have A:(Lib.index (Lib.bytesOf (b::l)) [42,47] == -1)=false:=(by simpa using E);simp only [Bool.false_eq_true,if_false,A];omega
theorem aD8 (A) (h:Bys A):Lib.contains (Lib.bytesOf A) (Lib.bytesOf [42,47])=jG A:=by
 have:=aE2 A h;unfold Lib.contains
 show decide (0<=Lib.index (Lib.bytesOf A) [42,47])=_
 rw [Bool.eq_iff_iff,decide_eq_true_eq];exact this
theorem aDL (v A) (H:Nat) (m:Int) (w:World) (hv:RdB w.heap.size w v A) (hs:Sl v A.length) (D:Bys A) (hn:A.length<=1048576) (h0:w.cell? ⟨H,0,none⟩=some (.int .u8 42)) (h1:w.cell? ⟨H,1,none⟩=some (.int .u8 47)) (hm:w.cell? ⟨1,0,none⟩=some (.int .i64 m)) (O:Nat) :
  Calls prog 134 #[v,.slice (some ⟨H,0,none⟩) 2 O] w fun e M=>e=.returned (.bool (jG A))/\∃ q,M=w.drewN q:=by
 obtain ⟨a,F,rfl,S⟩:=id hv;obtain ⟨a',Y,e,E,Z⟩:=hs;simp only [Value.slice.injEq] at e;obtain ⟨rfl,_,rfl⟩:=e
 by_cases I:A.length<2
 .refine (Any.bytes_Contains_longer aGD a (some ⟨H,0,none⟩) A.length F 2 O w (by omega) I (by omega)).mono ?_;rintro e M ⟨rfl,rfl⟩;refine ⟨?_,0,rfl⟩
  have:jG A=false:=by
   match A,I with
   | [],_=>rfl
   | [z],_=>rfl
  rw [this]
 .obtain ⟨b,N,rfl,hb,hc⟩:=S (fun e=>by rw [e] at I;simp at I);rw [<- aD8 A D];refine (Any.bytes_Contains_at aGD ⟨b,N,none⟩ ⟨H,0,none⟩ A.length F 2 O A [42,47] m w rfl rfl (fun x hx=>by have:=D x hx;omega) (fun y G=>?_) (fun i J=>?_) (fun i J=>?_) E (by omega) (by omega) hm).mono fun e M h=>h
  .simp at G;rcases G with rfl | rfl<;>omega
  .rw [Addr.add_lit,hc i J];simp [getD]
  .rw [Addr.add_lit]
   match i,J with
   | 0,_=>simpa using h0
   | 1,_=>simpa using h1
end Go.Proofs.YtckcaefnokeodaaGreatDoor
