import Derived.Test.YtgifkcpdihphlaaGreatDoorMAM
set_option maxHeartbeats 16000000
set_option maxRecDepth 100000
namespace Go.Proofs.YtgifkcpdihphlaaGreatDoor
open Tryz
open Go.RowKit
def lQ (t:Tre):Bool:=
 decide (1<=t.N.length)&&(decide (t.N.length<=4000)&&((decide (eO t.N+bN t.tail<=100000)&&decide (fC t.N+t.tail.length<=4000))&&(t.tail.all gE&&(t.N.all aV&&decide (dA t.N.length (iF t.N.length 201 false t.N)=(t.N.length:Int))))))
theorem wK (nv tv:Value) (t:Tre) (w:World) (hv:dG w.heap.size w nv tv t) (Z:aCd t) (hR:eO t.N+bN t.tail<=1048576) (hK:fC t.N+t.tail.length<=1048576) :
  Calls prog 15 #[.agg #[nv,tv]] w fun e w'=>e=.returned (.bool (lQ t))/\w.grownBy w' none:=by
 obtain ⟨J,E⟩:=id hv;obtain ⟨na,y,d5,_⟩:=id J;obtain ⟨ta,O,d2,_⟩:=id E;have HN:=aB J;have HO:=aB Z;have hl:=Z.l;have a7:Hid (∀ w',w.grownBy w' none->_):=fun w' (g:w.grownBy w' none)=>aEg nv tv t w' ⟨(J.K g).wide g.size,(E.K g).wide g.size⟩ hR hK Z.l;have b3:Hid (∀ w',w.grownBy w' none->_):=fun w' (g:w.grownBy w' none)=>kU tv t.tail w' ((E.K g).wide g.size) Z.t.1 Z.t.2;have a9:Hid ((∀ p∈t.N,p.k<5->p.C=0)->∀ w',w.grownBy w' none->_):=fun hc w' (g:w.grownBy w' none)=>aBM t Z.l hc (fun p j=>(Z.n p j).2) 200 (by omega) 0 false nv tv w' (Nat.zero_le _) ⟨(J.K g).wide g.size,(E.K g).wide g.size⟩;have gA:w.grownBy (w.alloc (Obj.cells #[nv,tv] 33)) none:=gWA;have GA:=aB gA;subst d5 d2;clear hv J E Z gA
 by_cases h1:t.N.length<1
 ·have HF:Hid (lQ t=false):=(by unfold Hid lQ;rw [decide_eq_false (by omega)];rfl);have b1:(t.N.length:Int)<1:=by omega
  go_enter func15,ntmps15
  go_wp2;go_ret;exact ⟨by rw [HF.out];rfl,GA.out⟩
 by_cases h2:4000<t.N.length
 ·have HF:Hid (lQ t=false):=(by unfold Hid lQ;rw [decide_eq_false (show ¬ t.N.length<=4000 by omega)];simp);have b1:¬ (t.N.length:Int)<1:=(by omega);have d8:(4000:Int)<t.N.length:=by omega
  go_enter func15,ntmps15
  go_wp2;go_ret;exact ⟨by rw [HF.out];rfl,GA.out⟩
 have b1:¬ (t.N.length:Int)<1:=(by omega);have d8:¬ (4000:Int)<t.N.length:=by omega
 have D:Hid (lQ t=((decide (eO t.N+bN t.tail<=100000)&&decide (fC t.N+t.tail.length<=4000))&&(t.tail.all gE&&(t.N.all aV&&decide (dA t.N.length (iF t.N.length 201 false t.N)=(t.N.length:Int)))))):=by
  unfold Hid lQ;rw [decide_eq_true (show 1<=t.N.length by omega),decide_eq_true (show t.N.length<=4000 by omega)];simp only [Bool.true_and]
 go_enter func15,ntmps15
 go_wp2_with fail
 refine (a7.out _ GA.out).mono ?_;rintro e w1 ⟨rfl,g1⟩;have c0:w1.cell? ⟨w.heap.size,0,none⟩=some (.slice na t.N.length y):=g1.cell (by simp [go_sem]) (by simp);have c1:w1.cell? ⟨w.heap.size,1,none⟩=some (.slice ta t.tail.length O):=g1.cell (by simp [go_sem]) (by simp);have G1:=aB (aA GA.out g1);clear g1 a7;generalize (decide (eO t.N+bN t.tail<=100000)&&decide (fC t.N+t.tail.length<=4000))=sm at *;cases sm with
 | false=>
   go_wp2;go_ret;exact ⟨by rw [D.out];rfl,G1.out⟩
 | true=>
   rw [Bool.true_and] at D
   go_wp2_with fail
   refine (b3.out _ G1.out).mono ?_;rintro e w2 ⟨rfl,g2⟩;have c2:=g2.cell c0 (by simp);have c3:=g2.cell c1 (by simp);have G2:=aB (aA G1.out g2);clear g2 b3 c0 c1;generalize t.tail.all gE=cm at *;cases cm with
   | false=>
     go_wp2;go_ret;exact ⟨by rw [D.out];rfl,G2.out⟩
   | true=>
     rw [Bool.true_and] at D;go_wp2
     go_loopw [3] (fun i wr=>∃ k:Nat,k<=t.N.length/\i=.int .i64 k/\Hid ((t.N.take k).all aV=true)/\w2.grownBy wr none) (fun i _=>t.N.length - (intOf i).toNat)
     case atStart=>exact ⟨0,Nat.zero_le _,rfl,by simp [Hid],World.grownBy.refl _ _⟩
     case round=>
      obtain ⟨k,hk,rfl,HA,A⟩:=hrel;have c4:=A.cell c2 (by simp);have c5:=A.cell c3 (by simp);have u:=aA G2.out A
      by_cases Y:k<t.N.length
      ·obtain ⟨b,off,g0,lv,kv,xv,uv,f7,d1,hb,j⟩:=(HN.out.K u).at k Y;cases d1;have z0:=j.k;have z1:=j.L;have z2:=j.mem;have z3:=j.key;have z4:=j.X;have z5:=j.U;have z6:=j.C;have z7:=j.tail;have HC:=aB (aCw t.N[k] lv kv xv uv f7 w.heap.size wr u.size j.rl j.rk j.sk j.rx j.sx j.ru j.su j.rt (HO.out.n _ (List.getElem_mem Y)).1);obtain ⟨la,h3,d9,_,_⟩:=j.rl.sl;obtain ⟨qa,f8,f4,_,_⟩:=j.rt.sl;obtain ⟨ka,g9,d0,_,_⟩:=j.sk;obtain ⟨xa,h7,d4,_,_⟩:=j.sx;obtain ⟨ua,g8,d3,_,_⟩:=j.su;have HG:=aB A;have HW:=aB u;subst d9 f4 d0 d4 d3;clear j A u;cases hc:aV t.N[k] with
       | true=>
         have d6:=aB (wS aV t.N k Y HA.out hc);rw [hc] at HC;clear hc;generalize t.N[k]=p at *
         go_wp2_with fail
         refine HC.out.mono ?_;rintro e w4 ⟨rfl,g4⟩;have a6:=aB (aA HG.out g4);clear g4;go_wp2
         go_roundw
         case rel=>exact ⟨k+1,by omega,by go_num,d6,a6.out⟩
         case measure=>simp [intOf];omega
       | false=>
         have HF:Hid (lQ t=false):=(by unfold Hid;rw [D.out,aAS aV t.N k Y hc];rfl);rw [hc] at HC;clear hc;generalize t.N[k]=p at *
         go_wp2_with fail
         refine HC.out.mono ?_;rintro e w4 ⟨rfl,g4⟩;have a6:=aB (aA HW.out g4);clear g4;go_wp2;go_ret;exact ⟨by rw [HF.out];rfl,a6.out⟩
      ·have M:t.N.all aV=true:=by
        have:=HA.out;rw [show k=t.N.length by omega,List.take_length] at this;exact this
       have b2:∀ p∈t.N,p.k<5->p.C=0:=fun p j h5=>by
        have h:=(rN p).1 (List.all_eq_true.1 M p j);exact (h.2.2.2.2.2.2.2.2.2.1 h5).1
       have f3:Hid (lQ t=decide (dA t.N.length (iF t.N.length 201 false t.N)=(t.N.length:Int))):=by
        unfold Hid;rw [D.out,M,Bool.true_and]
       have gd:wr.grownBy wr.drew none:=⟨rfl,rfl,rfl,Nat.le_refl _,fun _ _ _=>rfl⟩;have HE:=aB (a9.out b2 wr.drew (aA u gd));rw [List.drop_zero] at HE;have HW:=aB (aA u gd);have c6:=gd.cell c4 (by simp);have c7:=gd.cell c5 (by simp);clear u A b2 M a9 gd;generalize dA t.N.length (iF t.N.length 201 false t.N)=pl at *;go_wp2;obtain ⟨I,hI⟩:∃ I:World->Prop,I=(fun W:World=>W.cell? ⟨w.heap.size,0,none⟩=some (.slice na t.N.length y)/\W.cell? ⟨w.heap.size,1,none⟩=some (.slice ta t.tail.length O)):=⟨_,rfl⟩;have G:I wr.drew:=(by rw [hI];exact ⟨c6,c7⟩);refine cS I (fun _=>false) (by kernel_rfl) ?_
       show kZ _ _ _ _ _ _ 7 (Array.replicate 7 false) _ _
       refine bE (i:=0) (.agg #[.slice na t.N.length y,.slice ta t.tail.length O]) rfl G (cC rfl (fun W H=>by rw [hI] at H;obtain ⟨h1,h2⟩:=H;go_simp)) ?_;refine bE (i:=2) (.pointer (some ⟨w.heap.size,0,none⟩)) rfl G (cC rfl (fun W H=>by rw [hI] at H;obtain ⟨h1,h2⟩:=H;go_simp)) ?_;refine bE (i:=3) (.slice na t.N.length y) rfl G (cC rfl (fun W H=>by rw [hI] at H;obtain ⟨h1,h2⟩:=H;go_simp)) ?_;refine bE (i:=4) (.int .i64 t.N.length) rfl G (cC rfl (fun W H=>by rw [hI] at H;obtain ⟨h1,h2⟩:=H;go_simp)) ?_;refine aL (i:=1) (by kernel_rfl) (eC rfl rfl (by go_simp) HE.out ?_);rintro e w6 ⟨rfl,g⟩;have G6:=aB (aA HW.out g);have S:I w6:=(by rw [hI];exact ⟨g.cell c6 (by simp),g.cell c7 (by simp)⟩);clear g;refine ⟨_,rfl,.inr S,?_⟩;refine aL (i:=5) (by kernel_rfl) (bM (v:=.bool (decide (pl=(t.N.length:Int)))) rfl rfl (by go_simp;rfl) ⟨.inr S,?_⟩);refine aL (i:=6) (by kernel_rfl) (bM (v:=.bool (decide (pl=(t.N.length:Int)))) rfl rfl (by go_simp) ⟨.inr S,?_⟩);refine eD (by kernel_rfl) ?_ _;clear G S;subst hI;go_wp2;go_ret;exact ⟨by rw [f3.out];rfl,G6.out⟩
end Go.Proofs.YtgifkcpdihphlaaGreatDoor
