import Derived.RegionTactic
import Derived.ChangeAlike
import Derived.BigRegion
import Derived.Test.YtgifkcpdihphlaaGreatDoorMBP
set_option maxHeartbeats 16000000
set_option maxRecDepth 100000
namespace Go.Proofs.YtgifkcpdihphlaaGreatDoor
open Tryz
open Go.RowKit
attribute [-go_sem] Builtin.append_
theorem aBn {a b:World} (g:a.grownBy b none) (c o:Nat) (x:Value) (y:c<a.heap.size):(a.setCell ⟨c,o,none⟩ x).grownBy (b.setCell ⟨c,o,none⟩ x) none:=by
 refine ⟨g.os,g.tape,g.output,by simpa using g.size,fun k u _=>?_⟩;have j:k<a.heap.size:=(by simpa using u);have e:=g.block k j (by simp)
 by_cases h:k=c
 ·subst h;unfold World.setCell;simp only [Array.getElem?_modify,if_true,e]
 ·rw [Below.heap_setCell _ _ _ _ (by simpa using h),Below.heap_setCell _ _ _ _ (by simpa using h)];exact e
theorem aKh (H bd:Nat) (ps:List Pc) (t:List Int) (tv v:Value) (w0 w W X:World) (hv:∃ y,w0.cell? ⟨bd,0,none⟩=some y/\DfR H w0 y ps) (O:W.cell? ⟨bd,0,none⟩=some v) (E:w0.grownBy w none) (u:w.grownBy W none) (D:TxO w0.heap.size w tv t) (A:bd<H) (Z:H<=w0.heap.size)
  (G:X=((W.setCell ⟨bd,2,none⟩ (.bool false)).drew).drew):DfR H (w0.setCell ⟨bd,2,none⟩ (.bool false)) v ps/\TxO (w0.setCell ⟨bd,2,none⟩ (.bool false)).heap.size X tv t/\(w0.setCell ⟨bd,2,none⟩ (.bool false)).grownBy X none:=by
 obtain ⟨y,S,Y⟩:=hv;have e:=(aA E u).cell S (by simp);rw [O] at e;cases e;have j:∀ U:World,U.grownBy U.drew none:=fun U=>⟨rfl,rfl,rfl,Nat.le_refl _,fun _ _ _=>rfl⟩;refine ⟨Y.set _ _ _ A,?_,?_⟩
 ·have L:W.grownBy (W.setCell ⟨bd,2,none⟩ (.bool false)) (some bd):=⟨rfl,rfl,rfl,by simp,fun i _ J=>Below.heap_setCell _ _ _ _ (fun e=>J (by rw [e]))⟩;have N:=((D.K u).row L (fun x e h=>by cases h;have:=(D.lt bd e).1;omega));rw [G];have M:=(N.K (j _)).K (j _);simpa using M
 ·rw [G];exact aA (aA (aBn (aA E u) bd 2 (.bool false) (by omega)) (j _)) (j _)
theorem zY (H bd:Nat) (ps:List Pc) (fb:Bool) (p:Pc) (w0 w W:World) (J:gP H w0 bd (ps,fb)) (D:w0.grownBy w none) (u:w.grownBy W none) (y:bd<H) (N:H<=w0.heap.size) (E:oB (ps,fb) p=(ps,true)) :
  gP H (W.setCell ⟨bd,2,none⟩ (.bool true)).drew bd (oB (ps,fb) p)/\Frd H bd w (W.setCell ⟨bd,2,none⟩ (.bool true)).drew:=by
 have h:=(J.K D).K u;obtain ⟨G,M,L⟩:=h.v;have A:∀ U:World,U.grownBy U.drew none:=fun U=>⟨rfl,rfl,rfl,Nat.le_refl _,fun _ _ _=>rfl⟩;have O:=D.size;refine ⟨?_,(Frd.grown u (by omega) (fun x e=>by cases e)).trans ((Frd.set H bd W 2 (.bool true)).trans (Frd.grown (A _) (by have:=u.size;simp;omega) (fun x e=>by cases e)))⟩;rw [E];have c:∀ j,j≠2->(W.setCell ⟨bd,2,none⟩ (.bool true)).cell? ⟨bd,j,none⟩=W.cell? ⟨bd,j,none⟩:=fun j S=>World.cell?_setCell_other _ _ _ _ (by intro e;have:=congrArg Addr.off e;simp only at this;omega);refine gP.K (w:=W.setCell ⟨bd,2,none⟩ (.bool true)) ⟨⟨G,by rw [c 0 (by omega)];exact M,L.set _ _ _ y⟩,by rw [c 1 (by omega)];exact h.r,?_,fun j=>by simpa using h.fz j,h.n,h.sm⟩ (A _);have:=h.f;simp [go_sem,this]
theorem aMg (H bd:Nat) (ps:List Pc) (p:Pc) (w Y:World) (v x:Value) (y:DfR H Y v (ps++[p])) (G:Y.cell? ⟨bd,0,none⟩=some v) (J:Y.cell? ⟨bd,1,none⟩=some x) (L:Y.cell? ⟨bd,2,none⟩=some (.bool false)) (D:∀ j,Y.frozen? ⟨bd,j,none⟩=false) (A:Frd H bd w Y) (u:bd<H)
  (M:ps.length<40000) (N:¬ 100000 - cR ps<(p.t.length:Int)):gP H (Y.setCell ⟨bd,1,none⟩ (.int .i64 (100000 - cR (ps++[p])))).drew bd (ps++[p],false)/\Frd H bd w (Y.setCell ⟨bd,1,none⟩ (.int .i64 (100000 - cR (ps++[p])))).drew:=by
 have E:∀ U:World,U.grownBy U.drew none:=fun U=>⟨rfl,rfl,rfl,Nat.le_refl _,fun _ _ _=>rfl⟩;have c:∀ j,j≠1->(Y.setCell ⟨bd,1,none⟩ (.int .i64 (100000 - cR (ps++[p])))).cell? ⟨bd,j,none⟩=Y.cell? ⟨bd,j,none⟩:=fun j O=>World.cell?_setCell_other _ _ _ _ (by intro e;have:=congrArg Addr.off e;simp only at this;omega);refine ⟨gP.K (w:=Y.setCell ⟨bd,1,none⟩ (.int .i64 (100000 - cR (ps++[p])))) ⟨⟨v,by rw [c 0 (by omega)];exact G,y.set _ _ _ u⟩,by simp [go_sem,J],by rw [c 2 (by omega)];exact L,fun j=>by simpa using D j,by simp;omega,by simp only [sF];omega⟩ (E _),?_⟩;have h:=A.trans (Frd.set H bd Y 1 (.int .i64 (100000 - cR (ps++[p]))));exact ⟨h.os,h.tape,h.output,h.size,h.block⟩
theorem aDm (H bd:Nat) (s:List Pc × Bool) (p:Pc) (tv:Value) (w0 w:World) (hd:gP H w0 bd s) (g0:w0.grownBy w none) (ht:TxO w0.heap.size w tv p.t) (G:bd<H) (hH:H<=w0.heap.size) (hn:p.t.length<=1000000000) :
  Calls prog 122 #[.pointer (some ⟨bd,0,none⟩),.agg #[.int .i64 p.k,tv,.int .i64 p.n]] w fun e w'=>e=.returned (.tuple #[])/\gP H w' bd (oB s p)/\Frd H bd w w':=by
 have D:=hd.K g0;obtain ⟨dv,c0,b7⟩:=D.v;have c1:=D.r;have S:=D.f;have fz:=D.fz;have h7:=D.n;have k3:=D.sm;have l4:=fO s.1;obtain ⟨ta,y,d7,_,_⟩:=ht.sl;obtain ⟨da,E,f9⟩:=b7.sl;have HD:=aB hd;have HT:=aB ht;have HG:=aB g0;have m0:=g0.size;subst d7 f9;obtain ⟨W,A⟩:∃ W,W=w.alloc (Obj.cells #[Value.int IntKind.i64 p.k,.slice ta p.t.length y,Value.int IntKind.i64 p.n] 74):=⟨_,rfl⟩;have gW:w.grownBy W none:=(by rw [A];exact gWA);have sW:W.heap.size=w.heap.size+1:=(by rw [A];simp);have d0:=gW.cell c0 (by simp);have d1:=gW.cell c1 (by simp);have d2:=gW.cell S (by simp);have d3:W.cell? ⟨w.heap.size,1,none⟩=some (.slice ta p.t.length y):=(by rw [A];simp [go_sem]);have e0:W.cell? ⟨w.heap.size,0,none⟩=some (.int .i64 p.k):=(by rw [A];simp [go_sem]);have e2:W.cell? ⟨w.heap.size,2,none⟩=some (.int .i64 p.n):=(by rw [A];simp [go_sem]);have f2:∀ j,W.frozen? ⟨bd,j,none⟩=false:=fun j=>by rw [World.frozen?_of_block (gW.block bd (World.block_lt_of_cell? w _ c0) (by simp))];exact fz j
 have h9:=f2 2;have GW:=aB gW;have HW:=aB A;clear c0 c1 S fz D hd ht g0 b7 gW;obtain ⟨ps,c4⟩:=s;simp only at *;cases c4 with
 | true=>
   have HR:=aB (show oB (ps,true) p=(ps,true) by simp [oB])
   go_enter func122,ntmps122
   go_wp2;rw [<- HW.out];clear A
   go_region
   go_wp2;refine bodyPost_ret (results_none rfl _ _ _) rfl ?_;exact ⟨rfl,zY H bd ps true p w0 w W HD.out HG.out GW.out G hH HR.out⟩
 | false=>
   by_cases hA:ps.length=40000
   ·have HR:=aB (show oB (ps,false) p=(ps,true) by simp [oB,hA]);have g3:((ps.length:Int)==40000)=true:=by simp;omega
    go_enter func122,ntmps122
    go_wp2;rw [<- HW.out];clear A
    go_region
    go_wp2;refine bodyPost_ret (results_none rfl _ _ _) rfl ?_;exact ⟨rfl,zY H bd ps false p w0 w W HD.out HG.out GW.out G hH HR.out⟩
   ·have g3:((ps.length:Int)==40000)=false:=by simp;omega
    by_cases hB:100000 - cR ps<(p.t.length:Int)
    ·have HR:=aB (show oB (ps,false) p=(ps,true) by simp [oB,hB]);have g8:decide (100000 - cR ps<(p.t.length:Int))=true:=by simpa using hB
     go_enter func122,ntmps122
     go_wp2;rw [<- HW.out];clear A;generalize 100000 - cR ps=rm at *
     go_region
     go_wp2;refine bodyPost_ret (results_none rfl _ _ _) rfl ?_;exact ⟨rfl,zY H bd ps false p w0 w W HD.out HG.out GW.out G hH HR.out⟩
    ·have HR:=aB (show oB (ps,false) p=(ps++[p],false) by unfold oB;rw [if_neg (by simp;omega)]);have g8:decide (100000 - cR ps<(p.t.length:Int))=false:=(by simpa using hB);have g4:Hid (100000 - cR (ps++[p])=100000 - cR ps - p.t.length):=(by unfold Hid;rw [sF];omega);obtain ⟨X,J⟩:∃ X,X=((W.setCell ⟨bd,2,none⟩ (.bool false)).drew).drew:=⟨_,rfl⟩;obtain ⟨O,b9,gX⟩:=aKh H bd ps p.t (.slice ta p.t.length y) (.slice da ps.length E) w0 w W X HD.out.v d0 HG.out GW.out HT.out G hH J;have b5:X.heap.size=w.heap.size+1:=(by rw [J];simp [sW]);obtain ⟨v2,N,Z,o2,g2,a2,S,g1⟩:=O.push p.k p.n _ p.t gX b9 (by simpa using hH) (by omega);rw [b5] at Z;have f4:=aB o2;have L:∀ x,(Value.slice da ps.length E).ownBlock=some x->H<=x:=fun x e=>(O.lt x e).1
     have bX:∀ j,X.cell? ⟨bd,j,none⟩=if j=2 then some (.bool false) else W.cell? ⟨bd,j,none⟩:=fun j=>by
      rw [J]
      by_cases h:j=2
      ·subst h;simp [go_sem,d2]
      ·rw [if_neg h];show (W.setCell _ _).cell? _=_;rw [World.cell?_setCell_other _ _ _ _ (by intro e;have:=congrArg Addr.off e;simp only at this;omega)]
     have wX:∀ j,X.cell? ⟨w.heap.size,j,none⟩=W.cell? ⟨w.heap.size,j,none⟩:=fun j=>by
      rw [J]
      show (W.setCell _ _).cell? _=_
      rw [World.cell?_setCell_other _ _ _ _ (by intro e;have:=congrArg Addr.block e;simp only at this;omega)]
     have fX:∀ j,X.frozen? ⟨bd,j,none⟩=false:=fun j=>by rw [J];simpa using f2 j
     obtain ⟨I,hI⟩:∃ I:World->Prop,I=(fun U:World=>U.cell? ⟨bd,0,none⟩=some (.slice da ps.length E)/\U.frozen? ⟨bd,0,none⟩=false/\U.cell? ⟨w.heap.size,0,none⟩=some (.int .i64 p.k)/\U.cell? ⟨w.heap.size,1,none⟩=some (.slice ta p.t.length y)/\U.cell? ⟨w.heap.size,2,none⟩=some (.int .i64 p.n)):=⟨_,rfl⟩;have u:I X:=(by rw [hI];exact ⟨by rw [bX];exact d0,fX 0,by rw [wX];exact e0,by rw [wX];exact d3,by rw [wX];exact e2⟩);have gA:=World.grownBy_alloc X (Obj.cells #[.int .i64 p.k,.slice ta p.t.length y,.int .i64 p.n] 74) none
     have a8:∀ (U:World) (r:Option Nat),X.grownBy U r->(∀ x,r=some x->x≠bd/\x≠w.heap.size)->I U:=fun U r g hr=>by
      rw [hI] at u ⊢;have n1:some bd≠r:=fun e=>(hr bd e.symm).1 rfl;have n2:some w.heap.size≠r:=fun e=>(hr _ e.symm).2 rfl;exact ⟨g.cell u.1 n1,by rw [World.frozen?_of_block (g.block bd (World.block_lt_of_cell? X _ u.1) n1)];exact u.2.1,g.cell u.2.2.1 n2,g.cell u.2.2.2.1 n2,g.cell u.2.2.2.2 n2⟩
     have b3:=a8 _ none gA (fun x e=>by cases e);have M:=a8 _ _ g2 (fun x e=>by have h1:=L x e;have h2:=(O.lt x e).2;simp at h2;have:=HG.out.size;omega);have G2:=aB g2;have k7:=g2.size;have q1:N.cell? ⟨bd,1,none⟩=some (.int .i64 (100000 - cR ps)):=g2.cell (by rw [bX];simpa using d1) (fun e=>by have:=L bd e.symm;omega);have q2:N.cell? ⟨bd,2,none⟩=some (.bool false):=g2.cell (by rw [bX];simp) (fun e=>by have:=L bd e.symm;omega)
     have qf:∀ j,N.frozen? ⟨bd,j,none⟩=false:=fun j=>by
      rw [World.frozen?_of_block (g2.block bd (by rw [b5];have:=World.block_lt_of_cell? _ _ q1;omega) (fun e=>by have:=L bd e.symm;omega))];exact fX j
     have g7:Hid (Frd H bd w N):=((Frd.grown GW.out (by omega) (fun x e=>by cases e)).trans ((Frd.set H bd W 2 (.bool false)).trans ⟨by rw [J];rfl,by rw [J];rfl,by rw [J];rfl,by rw [J];simp,fun k _ _=>by rw [J];rfl⟩)).trans (Frd.grown g2 (by omega) (fun x e=>.inl (L x e)));have QF:=aB qf;have d8:=qf 1;have h8:=qf 0;subst g1;have c3:=M;rw [hI] at c3;obtain ⟨y0,y1,y2,y3,y4⟩:=c3;have l3:=fO ps;have f6:=aB J;clear o2 g2 gA a8 wX bX O b9 gX qf J
     go_enter func122,ntmps122
     go_wp2;rw [<- HW.out];clear A;generalize i1:100000 - cR ps=rm at *
     go_region
     go_wp2;refine cS I (fun i=>i==10) (by kernel_rfl) ?_;rw [<- f6.out]
     show kZ _ _ _ _ _ _ 11 (Array.replicate 11 false) _ _
     refine bE (i:=0) (.pointer (some ⟨bd,0,none⟩)) rfl u (cC rfl (fun W A=>by go_simp)) ?_;refine bE (i:=1) (.pointer (some ⟨bd,0,none⟩)) rfl u (cC rfl (fun W A=>by go_simp)) ?_;refine bE (i:=2) (.pointer (some ⟨bd,0,none⟩)) rfl u (cC rfl (fun W A=>by go_simp)) ?_;refine bE (i:=3) (.pointer (some ⟨bd,0,none⟩)) rfl u (cC rfl (fun W A=>by go_simp)) ?_;refine bE (i:=4) (.slice da ps.length E) rfl u (cC rfl (fun W A=>by rw [hI] at A;obtain ⟨h1,h2,h3,h4,h5⟩:=A;go_simp)) ?_;refine bE (i:=5) (.agg #[.int .i64 p.k,.slice ta p.t.length y,.int .i64 p.n]) rfl u (cC rfl (fun W A=>by rw [hI] at A;obtain ⟨h1,h2,h3,h4,h5⟩:=A;go_simp)) ?_;generalize hG:Act.put _ _ _=A0;simp [Act.put] at hG;subst hG;refine aL (i:=6) (by kernel_rfl) (bM (w':=X.alloc (Obj.cells #[.int .i64 p.k,.slice ta p.t.length y,.int .i64 p.n] 74)) (v:=.slice (some ⟨X.heap.size,0,none⟩) 1 1) rfl rfl (by go_simp) ⟨.inr b3,?_⟩);refine aL (i:=7) (by kernel_rfl) (bM (w':=N) (v:=.slice a2 (ps.length+1) S) rfl rfl (by go_simp) ⟨.inr M,?_⟩);refine aL (i:=8) (by kernel_rfl) (bM (w':=N) (v:=.pointer (some ⟨bd,0,none⟩)) rfl rfl (by go_simp) ⟨.inr M,?_⟩);refine aL (i:=9) (by kernel_rfl) (bM (w':=N) (v:=.pointer (some ⟨bd,0,none⟩)) rfl rfl (by go_simp) ⟨.inr M,?_⟩);refine aL (i:=10) (by kernel_rfl) (aG9 (w':=N.setCell ⟨bd,0,none⟩ (.slice a2 (ps.length+1) S)) rfl rfl (by go_simp) ⟨.inl rfl,?_⟩);refine eD (by kernel_rfl) ?_ _;subst hI;obtain ⟨Y,hY⟩:∃ Y,Y=N.setCell ⟨bd,0,none⟩ (.slice a2 (ps.length+1) S):=⟨_,rfl⟩;have b0:∀ j,j≠0->Y.cell? ⟨bd,j,none⟩=N.cell? ⟨bd,j,none⟩:=fun j hj=>by rw [hY];exact World.cell?_setCell_other _ _ _ _ (by intro e;have:=congrArg Addr.off e;simp only at this;omega)
     have r1:Y.cell? ⟨bd,1,none⟩=some (.int .i64 rm):=(by rw [b0 1 (by omega)];exact q1);have r2:Y.cell? ⟨bd,2,none⟩=some (.bool false):=(by rw [b0 2 (by omega)];exact q2);have r0:Y.cell? ⟨bd,0,none⟩=some (.slice a2 (ps.length+1) S):=(by rw [hY];simp [go_sem,y0]);have r3:Y.cell? ⟨w.heap.size,1,none⟩=some (.slice ta p.t.length y):=(by rw [hY,World.cell?_setCell_other _ _ _ _ (by intro e;have:=congrArg Addr.block e;simp only at this;omega)];exact y3);have rf:∀ j,Y.frozen? ⟨bd,j,none⟩=false:=fun j=>by rw [hY];simpa using QF.out j
     have k5:=rf 1;have RF:=aB rf;have i0:Hid (DfR H Y (.slice a2 (ps.length+1) S) (ps++[p])):=(by unfold Hid;rw [hY];exact f4.out.set _ _ _ G);have g9:Hid (Frd H bd w Y):=(by unfold Hid;rw [hY];exact g7.out.trans (Frd.set _ _ _ _ _));clear u b3 M Z y0 y1 y2 y3 y4 q1 q2 h8 d8 b0 rf d0 d1 d2 d3 e0 e2 f2 h9;go_wp2;rw [<- hY];clear hY
     go_region
     all_goals go_wp2
     all_goals go_end0
     all_goals rw [HR.out]
     all_goals have a4:=aMg H bd ps p w Y _ _ i0.out r0 r1 r2 RF.out g9.out G (by have:=h7;omega) (by have:=hB;rw [<- i1] at this;omega)
     all_goals rw [g4.out] at a4
     all_goals have l5:rm<=100000:=by omega
     all_goals have l1:(p.t.length:Int)<=rm:=by omega
     all_goals have g6:IntKind.i64.wrap (rm - ↑p.t.length)=rm - ↑p.t.length:=by rw [IntKind.wrap_i64];omega
     all_goals rw [g6]
     all_goals exact ⟨rfl,a4⟩
end Go.Proofs.YtgifkcpdihphlaaGreatDoor
namespace Go.Proofs.YtgifkcpdihphlaaGreatDoor
open Tryz
open Go.RowKit
def bT (w:World) (F:Nat->Prop) (f:Nat) (caps:Array Value) (ps:List Pc):Prop:=
 (∀ (args:Array Value) (W:World),(callFunc f args).run prog W=.ok (.enter f args) W)/\(∀ p∈ps,p.t.length<=1000000000)/\
 ∀ (H bd:Nat) (W:World) (s:List Pc × Bool),(∀ k,F k->k<H/\k≠bd/\W.heap[k]?=w.heap[k]?)->gP H W bd s->bd<H->H<=W.heap.size->
  Calls prog f (#[.pointer (some ⟨bd,0,none⟩)]++caps) W fun e W'=>e=.returned (.tuple #[])/\gP H W' bd (iM s ps)/\Frd H bd W W'
theorem bT.at {w w':World} {F D:Nat->Prop} {f:Nat} {u:Array Value} {ps:List Pc} (h:bT w F f u ps) (A:∀ k,F k->D k) (E:∀ k,F k->w'.heap[k]?=w.heap[k]?):bT w' D f u ps:=
 ⟨h.1,h.2.1,fun H bd W s y=>h.2.2 H bd W s (fun k j=>⟨(y k (A k j)).1,(y k (A k j)).2.1,(y k (A k j)).2.2.trans (E k j)⟩)⟩
theorem cG {w w':World} {b o:Nat} {v:Value} (h:w.cell? ⟨b,o,none⟩=some v) (e:w'.heap[b]?=w.heap[b]?):w'.cell? ⟨b,o,none⟩=some v:=by
 rw [<- h];exact World.cell?_of_block e
theorem Frd.draftless {H bd:Nat} {w w':World} (h:Frd H bd w w') (j:H<=w.heap.size):H<=w'.heap.size:=Nat.le_trans j h.size
theorem aJ4 (H bd g:Nat) (s:List Pc × Bool) (h:List Int) (hb:Bys h) (G:h.length<=1000000000) (W:World) (U:W.cell? ⟨g,0,none⟩=some (.string (strOfNums h))) (O:gP H W bd s) (A:bd<H) (Y:H<=W.heap.size) :
  Calls prog 142 #[.pointer (some ⟨bd,0,none⟩),.pointer (some ⟨g,0,none⟩)] W fun e X=>e=.returned (.tuple #[])/\gP H X bd (oB s ⟨1,h,0⟩)/\Frd H bd W X:=by
 obtain ⟨cap,M,D,L,y,hs,E⟩:=aA1 h hb G W
 have N:TxO W.heap.size M (.slice (some ⟨W.heap.size,0,none⟩) h.length cap) h:=by
  obtain ⟨a,S,e,k1,k2,k3⟩:=L;simp only [Value.slice.injEq] at e;obtain ⟨rfl,_,rfl⟩:=e;refine .inr ⟨W.heap.size,cap,rfl,k1,k2,Nat.le_refl _,by omega,fun j u=>⟨?_,E j u⟩⟩;obtain ⟨b,off,ha,_,U⟩:=k3 (fun e=>by rw [e] at u;simp at u);cases ha;have:=U j u
  rwa [Nat.zero_add] at this
 have J:=aB (aDm H bd s ⟨1,h,0⟩ _ W M O y N A Y G);have HG:=aB y;clear O N L E hs y
 go_enter func142,ntmps142
 go_wp2_with fail
 refine J.out.mono ?_;rintro e w2 ⟨rfl,Z,h2⟩;have HF:=aB ((Frd.grown (bd:=bd) HG.out Y (fun x e=>by cases e)).trans h2);have HD:=aB Z;clear J Z h2;go_wp2
 go_end0
 exact ⟨rfl,HD.out,HF.out⟩
theorem cI (j:List Int) (G:Bys j) (y:j.length<=1000000000) (w:World) :
  Calls prog 116 #[.string (strOfNums j)] w fun e w'=>∃ f h,e=.returned (.func (.func f) #[] h)/\bT w' (fun k=>w.heap.size<=k/\k<w'.heap.size) f h (aG j)/\w.grownBy w' none:=by
 go_enter func116,ntmps116
 go_wp2;go_ret;refine ⟨_,_,rfl,⟨fun args W=>by kernel_rfl,fun p A=>by simp [aG] at A;subst A;exact y,fun H bd W s D E u J=>?_⟩,gWA⟩;have L:=D w.heap.size ⟨Nat.le_refl _,by simp⟩;exact aJ4 H bd w.heap.size s j G y W (cG (w:=w.alloc (Obj.cells #[.string (strOfNums j)] 9)) (by simp [go_sem]) L.2.2) E u J
def PaR (w:World) (F:Nat->Prop) (v:Value) (dss:List (List Pc)):Prop:=
 ∃ a cap,v=.slice a dss.length cap/\dss.length<=cap/\cap<=maxLen/\(dss≠[]->∃ b off,a=some ⟨b,off,none⟩/\F b/\b<w.heap.size/\∀ (j:Nat) (ds:List Pc),dss[j]?=some ds->∃ f caps,w.cell? ⟨b,off+j,none⟩=some (.func (.func f) #[] caps)/\bT w F f caps ds)
theorem PaR.at {w w':World} {F D:Nat->Prop} {v:Value} {u:List (List Pc)} (h:PaR w F v u) (E:∀ k,F k->D k) (hs:w.heap.size<=w'.heap.size) (A:∀ k,F k->w'.heap[k]?=w.heap[k]?):PaR w' D v u:=by
 obtain ⟨a,cap,e,J,S,O⟩:=h;refine ⟨a,cap,e,J,S,fun Y=>?_⟩;obtain ⟨b,off,U,G,N,H⟩:=O Y;refine ⟨b,off,U,E b G,by omega,fun j M Z=>?_⟩;obtain ⟨f,y,L,X⟩:=H j M Z;exact ⟨f,y,cG L (A b G),X.at E A⟩
theorem PaR.sl {w:World} {F:Nat->Prop} {v:Value} {j:List (List Pc)} (h:PaR w F v j):Sl v j.length:=by
 obtain ⟨a,cap,e,y,u,_⟩:=h;exact ⟨a,cap,e,y,u⟩
theorem aKG (H bd b1 A:Nat) (s:List Pc × Bool) (F:Nat->Prop) (Z n:Int) (v:Value) (h:List (List Pc)) (W:World) (N:∀ k,F k->k<H/\k≠bd) (y:A<H/\A≠bd) (hl:h.length<=1000000000)
  (c1:W.cell? ⟨b1,0,none⟩=some v) (Y:W.cell? ⟨A,0,none⟩=some (.int .i64 Z)) (O:W.cell? ⟨A,1,none⟩=some (.slice none 0 0)) (S:W.cell? ⟨A,2,none⟩=some (.int .i64 n)) (hp:PaR W F v h) (hd:gP H W bd s) (X:bd<H) (hH:H<=W.heap.size) :
  Calls prog 147 #[.pointer (some ⟨bd,0,none⟩),.pointer (some ⟨b1,0,none⟩),.pointer (some ⟨A,0,none⟩)] W fun e W'=>e=.returned (.tuple #[])/\gP H W' bd (iM s (h.flatten++[⟨Z,[],n⟩]))/\Frd H bd W W':=by
 obtain ⟨a,cap,hv,d1,d2,hh⟩:=id hp;have HH:=aB hh;have HD:=aB hd;subst hv;clear hd hh hp
 go_enter func147,ntmps147
 go_wp2
 go_loopw [8] (fun i U=>∃ (j:Nat),j<=h.length/\i=.int .i64 j/\gP H U bd (iM s (h.take j).flatten)/\Frd H bd W U)
  (fun i _=>h.length - (intOf i).toNat)
 case atStart=>exact ⟨0,Nat.zero_le _,rfl,by simpa [iM] using HD.out,Frd.refl _ _ _⟩
 case round=>
  obtain ⟨j,hj,rfl,D,u⟩:=hrel;have a5:=u.draftless hH
  by_cases E:j<h.length
  ·obtain ⟨b,off,ha,hb,c7,hc⟩:=HH.out (fun e=>by rw [e] at E;simp at E);obtain ⟨f,a8,a4,M⟩:=hc j h[j] (by simp [E]);have b9:wr.cell? ⟨b,off+j,none⟩=some (.func (.func f) #[] a8):=cG a4 (u.block b (N b hb).1 (N b hb).2);have hE:=M.1;have HC:=aB (M.2.2 H bd wr _ (fun k hk=>⟨(N k hk).1,(N k hk).2,u.block k (N k hk).1 (N k hk).2⟩) D X a5);have HT:=aB (show (h.take (j+1)).flatten=(h.take j).flatten++h[j] by rw [show h.take (j+1)=h.take j++[h[j]] by rw [List.take_add_one];simp [E],List.flatten_append,List.flatten_singleton]);have L:=aB u;subst ha;clear a4 M hc D u;generalize h[j]=ds at *
   go_wp2_with fail
   refine HC.out.mono ?_;rintro e w1 ⟨rfl,h1,h2⟩;have J:Hid (gP H w1 bd (iM s (h.take (j+1)).flatten)):=(by unfold Hid;rw [HT.out,sO];exact h1);have G:=aB (L.out.trans h2);clear HC h1 h2 HT;go_wp2
   go_roundw
   case rel=>exact ⟨j+1,by omega,by go_num,J.out,G.out⟩
   case measure=>simp [intOf];omega
  ·have b3:j=h.length:=(by omega);subst b3;rw [List.take_length] at D;have q0:wr.cell? ⟨A,0,none⟩=some (.int .i64 Z):=cG Y (u.block A y.1 y.2);have q1:wr.cell? ⟨A,1,none⟩=some (.slice none 0 0):=cG O (u.block A y.1 y.2);have q2:wr.cell? ⟨A,2,none⟩=some (.int .i64 n):=cG S (u.block A y.1 y.2);have HP:=aB (aDm H bd _ ⟨Z,[],n⟩ (.slice none 0 0) wr wr D (World.grownBy.refl _ _) (TxO.nil _ _) X a5 (by simp));have L:=aB u;clear D u c1 Y O S
   go_wp2_with fail
   refine HP.out.mono ?_;rintro e w1 ⟨rfl,h1,h2⟩;have J:Hid (gP H w1 bd (iM s (h.flatten++[⟨Z,[],n⟩]))):=(by unfold Hid;rw [sO];exact h1);have G:=aB (L.out.trans h2);clear HP h1 h2;go_wp2
   go_end0
   exact ⟨rfl,J.out,G.out⟩
theorem aL5 (H bd N:Nat) (s:List Pc × Bool) (F:Nat->Prop) (v:Value) (D:List Pc) (h:List (List Pc)) (W:World) (E:∀ k,F k->k<H/\k≠bd) (Z:N<H/\N≠bd) (hl:h.length<=1000000000)
  (c1:W.cell? ⟨N,0,none⟩=some v) (hp:PaR W F v (D::h)) (hd:gP H W bd s) (L:bd<H) (hH:H<=W.heap.size) :
  Calls prog 121 #[.pointer (some ⟨bd,0,none⟩),.pointer (some ⟨N,0,none⟩)] W fun e W'=>e=.returned (.tuple #[])/\gP H W' bd (iM s (D++jA h))/\Frd H bd W W':=by
 obtain ⟨a,cap,hv,c5,c6,hh⟩:=id hp;obtain ⟨b,off,ha,hb,f7,hc⟩:=hh (by simp);obtain ⟨f0,b3,a6,y⟩:=hc 0 D rfl;have HH:=aB hc;have b4:=y.1;have S:=aB (y.2.2 H bd W s (fun k J=>⟨(E k J).1,(E k J).2,rfl⟩) hd L hH);have c2:(D::h).length=h.length+1:=rfl;rw [c2] at hv c5;rw [Nat.add_zero] at a6;have g1:cap<=9223372036854775807:=(by unfold maxLen at c6;omega);subst ha hv;clear hd hh hp y hc
 go_enter func121,ntmps121
 go_wp2_with fail
 refine S.out.mono ?_;rintro e w1 ⟨rfl,a7,G⟩;have a5:=aB a7;have Y:=aB G;have b8:w1.cell? ⟨N,0,none⟩=some (.slice (some ⟨b,off,none⟩) (h.length+1) cap):=cG c1 (G.block N Z.1 Z.2);clear S a7 G a6 b4;have d1:1<=cap:=by omega
 by_cases X:cap=1
 ·have b5:h=[]:=List.eq_nil_of_length_eq_zero (by omega);subst b5 X;simp only [List.length_nil,Nat.zero_add] at b8 ⊢;go_wp2
  go_loopw [13] (fun i U=>i=.int .i64 0/\w1=U) (fun i _=>0)
  case atStart=>exact ⟨rfl,rfl⟩
  case round=>
   obtain ⟨rfl,rfl⟩:=hrel;go_wp2
   go_end0
   exact ⟨rfl,by simpa [jA] using a5.out,Y.out⟩
 ·have f5:(cap==1)=false:=(by simpa using X);go_wp2
  go_loopw [13] (fun i U=>∃ (j:Nat),j<=h.length/\i=.int .i64 j/\gP H U bd (iM s (D++jA (h.take j)))/\Frd H bd W U)
   (fun i _=>h.length - (intOf i).toNat)
  case atStart=>exact ⟨0,Nat.zero_le _,rfl,by simpa [jA] using a5.out,Y.out⟩
  case round=>
   obtain ⟨j,hj,rfl,A,u⟩:=hrel;have a9:=u.draftless hH
   by_cases a4:j<h.length
   ·obtain ⟨f,b2,a8,M⟩:=HH.out (j+1) h[j] (by simp [a4]);have d6:wr.cell? ⟨b,off+1+j,none⟩=some (.func (.func f) #[] b2):=cG (by rw [show off+1+j=off+(j+1) by omega];exact a8) (u.block b (E b hb).1 (E b hb).2);have hE:=M.1;have HC:=aB (M.2.2 H bd wr _ (fun k J=>⟨(E k J).1,(E k J).2,u.block k (E k J).1 (E k J).2⟩) A L a9);have HT:=aB (show jA (h.take (j+1))=jA (h.take j)++(h[j]++[vD]) by rw [show h.take (j+1)=h.take j++[h[j]] by rw [List.take_add_one];simp [a4],aBG]);have b9:=aB u;clear a8 M A u;generalize h[j]=ds at *
    go_wp2_with fail
    refine HC.out.mono ?_;rintro e w2 ⟨rfl,h1,O⟩;have HP:=aB (aDm H bd _ ⟨6,[],0⟩ (.slice none 0 0) w2 w2 h1 (World.grownBy.refl _ _) (TxO.nil _ _) L (O.draftless a9) (by simp));have c0:=aB (b9.out.trans O);clear HC h1 O
    go_wp2_with fail
    refine HP.out.mono ?_;rintro e w3 ⟨rfl,h1,O⟩
    have b7:Hid (gP H w3 bd (iM s (D++jA (h.take (j+1))))):=by
     unfold Hid;rw [HT.out];have e:D++(jA (h.take j)++(ds++[vD]))=((D++jA (h.take j))++ds)++[vD]:=(by simp);rw [e,sO,sO];exact h1
    have c7:=aB (c0.out.trans O);clear HP h1 O HT;go_wp2
    go_roundw
    case rel=>exact ⟨j+1,by omega,by go_num,b7.out,c7.out⟩
    case measure=>simp [intOf];omega
   ·have b6:j=h.length:=(by omega);subst b6;rw [List.take_length] at A;have c3:=aB A;clear A;go_wp2
    go_end0
    exact ⟨rfl,c3.out,u⟩
theorem aIF {j:List (List Pc)} {p:Pc} (h:p∈j.flatten) (y:∀ u∈j,∀ q∈u,q.t.length<=1000000000):p.t.length<=1000000000:=by
 obtain ⟨u,A,D⟩:=List.mem_flatten.1 h;exact y u A p D
theorem PaR.texts {w:World} {F:Nat->Prop} {v:Value} {u:List (List Pc)} (h:PaR w F v u):∀ D∈u,∀ q∈D,q.t.length<=1000000000:=by
 intro D y;obtain ⟨j,A,rfl⟩:=List.getElem_of_mem y;obtain ⟨a,cap,e,M,S,J⟩:=h;obtain ⟨b,off,O,N,H,G⟩:=J (fun e=>by rw [e] at A;simp at A);obtain ⟨f,E,_,L⟩:=G j u[j] (by simp [A]);exact L.2.1
theorem aHO {u:List (List Pc)} {p:Pc} (h:p∈jA u) (A:∀ y∈u,∀ q∈y,q.t.length<=1000000000):p.t.length<=1000000000:=by
 unfold jA at h;obtain ⟨y,D,j⟩:=List.mem_flatMap.1 h;rcases List.mem_append.1 j with j | j
 ·exact A y D p j
 ·simp [vD] at j;subst j;simp
theorem mC (D n:Int) (v:Value) (j:List (List Pc)) (F:Nat->Prop) (w:World) (E:PaR w F v j) (M:∀ k,F k->k<w.heap.size) (O:j.length<=1000000000) :
  Calls prog 120 #[.agg #[.int .i64 D,.slice none 0 0,.int .i64 n],v] w fun e w'=>∃ f u,e=.returned (.func (.func f) #[] u)/\bT w' (fun k=>F k\/(w.heap.size<=k/\k<w'.heap.size)) f u (j.flatten++[⟨D,[],n⟩])/\w.grownBy w' none:=by
 obtain ⟨a,cap,hv,_,_⟩:=E.sl;subst hv
 go_enter func120,ntmps120
 go_wp2;go_ret;have g:=aA (World.grownBy_alloc w (Obj.cells #[.int .i64 D,.slice none 0 0,.int .i64 n] 74) none) (World.grownBy_alloc _ (Obj.cells #[.slice a j.length cap] 139) _);refine ⟨_,_,rfl,⟨fun args W=>by kernel_rfl,fun p h=>?_,fun H bd W s y N G S=>?_⟩,g⟩
 ·rcases List.mem_append.1 h with h | h
  ·exact aIF h E.texts
  ·simp at h;subst h;simp
 ·have A:=y w.heap.size (.inr ⟨Nat.le_refl _,by simp;omega⟩);have L:=y (w.heap.size+1) (.inr ⟨by omega,by simp⟩);have J:PaR W F (.slice a j.length cap) j:=E.at (fun k h=>h) (by have:=L.1;omega) (fun k h=>(y k (.inl h)).2.2.trans (g.block k (M k h) (by simp)))
  exact aKG H bd (w.heap.size+1) w.heap.size s F D n _ j W (fun k h=>⟨(y k (.inl h)).1,(y k (.inl h)).2.1⟩) ⟨A.1,A.2.1⟩ O
   (cG (by simp [go_sem]) L.2.2) (cG (by simp [go_sem]) A.2.2) (cG (by simp [go_sem]) A.2.2) (cG (by simp [go_sem]) A.2.2) J N G S
theorem aKH (w:World) (F:Nat->Prop):PaR w F (.slice none 0 0) []:=⟨none,0,rfl,Nat.le_refl _,by unfold maxLen;omega,fun h=>absurd rfl h⟩
theorem dX (u:Int) (w:World) :
  Calls prog 87 #[.int .i64 u] w fun e w'=>∃ f j,e=.returned (.func (.func f) #[] j)/\bT w' (fun k=>w.heap.size<=k/\k<w'.heap.size) f j (aI u)/\w.grownBy w' none:=by
 have A:=aB (mC u 0 (.slice none 0 0) [] (fun _=>False) w (aKH _ _) (fun _ h=>h.elim) (by simp))
 go_enter func87,ntmps87
 go_wp2_with fail
 refine A.out.mono ?_;rintro e E ⟨f,j,rfl,y,g⟩;have D:=aB y;clear A y;go_wp2;go_ret;exact ⟨f,j,rfl,D.out.at (fun k h=>h.resolve_left (fun h=>h)) (fun _ _=>rfl),g⟩
theorem rU (v:Value) (j:List (List Pc)) (F:Nat->Prop) (w:World) (y:PaR w F v j) (Y:∀ k,F k->k<w.heap.size) (hl:j.length<=1000000000) :
  Calls prog 88 #[v] w fun e w'=>∃ f u,e=.returned (.func (.func f) #[] u)/\bT w' (fun k=>F k\/(w.heap.size<=k/\k<w'.heap.size)) f u (cT j)/\w.grownBy w' none:=by
 obtain ⟨a,cap,hv,_,_⟩:=y.sl;subst hv;rcases j with _ | ⟨A,j⟩
 ·have O:Hid (∀ W:World,_):=fun W=>dX 0 W;simp only [List.length_nil];have gA:=World.grownBy_alloc w (Obj.cells #[.slice a 0 cap] 139) none;have S:=aB gA;clear y
  go_enter func88,ntmps88
  go_wp2_with fail
  refine (O.out _).mono ?_;rintro e w1 ⟨f,u,rfl,y,g⟩;have U:=aB y;have G:=aB (aA S.out g);clear O y g;go_wp2;go_ret;exact ⟨f,u,rfl,U.out.at (fun k h=>.inr ⟨by have:=h.1;simp at this;omega,h.2⟩) (fun _ _=>rfl),G.out⟩
 ·have N:(A::j).length=j.length+1:=rfl;rw [N] at *
  go_enter func88,ntmps88
  have X:(((j.length:Int)+1)==0)=false:=(by simp;omega);go_wp2;go_ret;have g:=World.grownBy_alloc w (Obj.cells #[.slice a (j.length+1) cap] 139) none;refine ⟨_,_,rfl,⟨fun args W=>by kernel_rfl,fun p h=>?_,fun H bd W s D Z M hH=>?_⟩,g⟩
  ·rcases List.mem_append.1 h with h | h
   ·exact y.texts A (by simp) p h
   ·exact aHO h (fun ds L=>y.texts ds (by simp [L]))
  ·have E:=D w.heap.size (.inr ⟨Nat.le_refl _,by simp⟩);have J:PaR W F (.slice a (j.length+1) cap) (A::j):=y.at (fun k h=>h) (by have:=E.1;omega) (fun k h=>(D k (.inl h)).2.2.trans (g.block k (Y k h) (by simp)));exact aL5 H bd w.heap.size s F _ A j W (fun k h=>⟨(D k (.inl h)).1,(D k (.inl h)).2.1⟩) ⟨E.1,E.2.1⟩ (Nat.le_trans (Nat.le_succ _) hl) (cG (by simp [go_sem]) E.2.2) J Z M hH
def PoL (B:Nat) (w:World) (v:Value) (dss:List (List Pc)):Prop:=
 ∃ (F:Nat->Prop) (xs:List Value),w.ownsRow B 92 1 v dss.length xs/\(∀ k,F k->B<=k/\k<w.heap.size/\v.ownBlock≠some k)/\∀ (j:Nat) (ds:List Pc),dss[j]?=some ds->∃ f caps,xs[j]?=some (.func (.func f) #[] caps)/\bT w F f caps ds
theorem PoL.nil (B:Nat) (w:World):PoL B w (.slice none 0 0) []:=⟨fun _=>False,[],⟨by simp,.inl ⟨rfl,rfl⟩⟩,fun _ h=>h.elim,fun j u h=>by simp at h⟩
theorem PoL.lt {B:Nat} {w:World} {v:Value} {j:List (List Pc)} (h:PoL B w v j):∀ k,v.ownBlock=some k->B<=k/\k<w.heap.size:=by
 obtain ⟨F,xs,u,_⟩:=h;exact fun k e=>World.ownsRow.lt u k e
theorem PoL.sl {B:Nat} {w:World} {v:Value} {j:List (List Pc)} (h:PoL B w v j):∃ a cap,v=.slice a j.length cap:=by
 obtain ⟨F,xs,u,_⟩:=h;exact aAj u
theorem PoL.K {B:Nat} {w w':World} {v:Value} {u:List (List Pc)} (h:PoL B w v u) (g:w.grownBy w' none):PoL B w' v u:=by
 obtain ⟨F,xs,H,D,G⟩:=h;refine ⟨F,xs,World.ownsRow.kept H g (by cases v.ownBlock<;>simp),fun k y=>⟨(D k y).1,Nat.lt_of_lt_of_le (D k y).2.1 g.size,(D k y).2.2⟩,fun j E M=>?_⟩;obtain ⟨f,A,J,L⟩:=G j E M;exact ⟨f,A,J,L.at (fun _ h=>h) (fun k y=>g.block k (D k y).2.1 (by simp))⟩
theorem PoL.row {B:Nat} {w w':World} {v:Value} {y:List (List Pc)} {r:Nat} (h:PoL B w v y) (g:w.grownBy w' (some r)) (N:r<B):PoL B w' v y:=by
 obtain ⟨F,xs,E,A,J⟩:=h;refine ⟨F,xs,World.ownsRow.kept E g (.inr (fun e=>by have:=(World.ownsRow.lt E r e).1;omega)),fun k u=>⟨(A k u).1,Nat.lt_of_lt_of_le (A k u).2.1 g.size,(A k u).2.2⟩,fun j H M=>?_⟩;obtain ⟨f,D,G,L⟩:=J j H M;exact ⟨f,D,G,L.at (fun _ h=>h) (fun k u=>g.block k (A k u).2.1 (fun e=>by have G:=(A k u).1;simp only [Option.some.injEq] at e;omega))⟩
theorem PoL.base {B B':Nat} {w:World} {v:Value} {j:List (List Pc)} (h:PoL B w v j) (u:B'<=B):PoL B' w v j:=by
 obtain ⟨F,xs,E,A,D⟩:=h;exact ⟨F,xs,bH u E,fun k y=>⟨Nat.le_trans u (A k y).1,(A k y).2⟩,D⟩
theorem PoL.pa {B:Nat} {w:World} {v:Value} {u:List (List Pc)} (h:PoL B w v u):∃ F,(∀ k,F k->B<=k/\k<w.heap.size)/\PaR w F v u:=by
 obtain ⟨F,xs,y,H,U⟩:=h;refine ⟨fun k=>F k\/v.ownBlock=some k,fun k O=>O.elim (fun h=>⟨(H k h).1,(H k h).2.1⟩) (fun h=>World.ownsRow.lt y k h),?_⟩;rcases id y.2 with ⟨hv,G⟩ | ⟨g,cap,X,hv,hg,J,D,E,_⟩
 ·exact ⟨none,0,by rw [hv,G],by omega,by unfold maxLen;omega,fun L=>absurd (List.eq_nil_of_length_eq_zero G) L⟩
 ·refine ⟨_,cap,hv,D,E,fun L=>⟨g,0,rfl,.inr (by rw [hv];rfl),(World.ownsRow.lt y g (by rw [hv];rfl)).2,fun j S M=>?_⟩⟩;obtain ⟨f,A,Z,Y⟩:=U j S M;have N:=(List.getElem?_eq_some_iff.1 M).1;rw [hv] at y;exact ⟨f,A,by rw [Nat.zero_add,World.ownsRow.cellAt y j (by omega)];exact Z,Y.at (fun _ h=>.inl h) (fun _ _=>rfl)⟩
theorem aMG:(prog.info? 92).map (fun i=>(i.zero,i.size,i.bytes))=some (some .nilFunc,1,8):=by kernel_rfl
theorem cJ (B:Nat) (w:World) (v u:Value) (E A:List (List Pc)) (G:Nat->Prop) (hv:PoL B w v E) (hu:PaR w G u A) (hG:∀ k,G k->B<=k/\k<w.heap.size/\v.ownBlock≠some k) (hB:B<=w.heap.size) (hn:E.length+A.length<=1000000000) :
  ∃ Z w',(Builtin.append_ #[139,139] 139 #[v,u]).run prog w=.ok Z w'/\PoL B w' Z (E++A)/\w.grownBy w' v.ownBlock:=by
 obtain ⟨i0,hi,a4,a8,a9⟩:=info_parts aMG;obtain ⟨F,xs,ho,hF,hp⟩:=id hv;obtain ⟨a,cap,rfl,c6,c7,hq⟩:=hu;cases a with
 | none=>
   have b2:A=[]:=by
    rcases A with _ | ⟨z,zs⟩
    ·rfl
    ·obtain ⟨b,off,ha,_⟩:=hq (by simp);cases ha
   subst b2;exact ⟨v,w,wU B _ _ _ i0 1 underlying139 hi v _ _ ho cap,by rw [List.append_nil];exact hv,World.grownBy.refl _ _⟩
 | some ad=>
   obtain ⟨ys,c8,b3,J⟩:∃ ys:List Value,ys.length=A.length/\(∀ (j:Nat) (M:List Pc),A[j]?=some M->∃ f y,ys[j]?=some (.func (.func f) #[] y)/\bT w G f y M)/\∀ (j:Nat) (x:Value),ys[j]?=some x->w.cell? (ad.add j)=some x/\x.oneCell'=true:=by
    by_cases h0:A=[]
    ·subst h0;exact ⟨[],rfl,fun j M h=>by simp at h,fun j x h=>by simp at h⟩
    ·obtain ⟨b,off,ha,hb,c2,X⟩:=hq h0;cases ha;refine ⟨(List.range A.length).map fun j=>(w.cell? ⟨b,off+j,none⟩).getD default,by simp,fun j M H=>?_,fun j x Y=>?_⟩
     ·obtain ⟨f,y,O,S⟩:=X j M H;have D:=(List.getElem?_eq_some_iff.1 H).1;exact ⟨f,y,by simp [D,O],S⟩
     ·have D:j<A.length:=(by have:=(List.getElem?_eq_some_iff.1 Y).1;simpa using this);obtain ⟨f,y,O,S⟩:=X j A[j] (by simp [D]);simp only [List.getElem?_map,List.getElem?_range D,Option.map_some,O,Option.getD_some,Option.some.injEq] at Y;subst Y;rw [Addr.add_lit];exact ⟨O,rfl⟩
   obtain ⟨Z,w',U,O,S,_,h4⟩:=run_append_own_at (P:=prog) w B 139 139 92 i0 .nilFunc 1 8 underlying139 hi a4 a8 a9 rfl (by decide) v E.length xs ho ad A.length cap ys (by omega) (fun j u H=>(J j u H).1)
    (by intro x Y;obtain ⟨j,H,rfl⟩:=List.getElem_of_mem Y;exact (J j _ (List.getElem?_eq_getElem H)).2) (by unfold maxLen;omega) (by omega) hB
   have b1:∀ x,Z.ownBlock=some x->(v.ownBlock=some x\/x=w.heap.size):=fun x e=>by
    rcases h4 with h | h
    ·exact .inl (by rw [<- h];exact e)
    ·rw [h] at e;cases e;exact .inr rfl
   refine ⟨Z,w',U,⟨fun k=>F k\/G k,xs++ys,by rw [List.length_append];exact O,?_,fun j M H=>?_⟩,S⟩
   ·intro k hk;have N:B<=k/\k<w.heap.size/\v.ownBlock≠some k:=hk.elim (hF k) (hG k);refine ⟨N.1,Nat.lt_of_lt_of_le N.2.1 S.size,fun e=>?_⟩;rcases b1 k e with h | h
    ·exact N.2.2 h
    ·have:=N.2.1;omega
   ·have c9:=ho.1
    have L:∀ k,(F k\/G k)->w'.heap[k]?=w.heap[k]?:=fun k hk=>by
     have N:B<=k/\k<w.heap.size/\v.ownBlock≠some k:=hk.elim (hF k) (hG k);exact S.block k N.2.1 (fun e=>N.2.2 e.symm)
    by_cases D:j<E.length
    ·rw [List.getElem?_append_left D] at H;obtain ⟨f,y,k1,k2⟩:=hp j M H;exact ⟨f,y,by rw [List.getElem?_append_left (by omega)];exact k1,k2.at (fun _ h=>.inl h) (fun k h=>L k (.inl h))⟩
    ·rw [List.getElem?_append_right (by omega)] at H;obtain ⟨f,y,k1,k2⟩:=b3 _ M H;refine ⟨f,y,?_,k2.at (fun _ h=>.inr h) (fun k h=>L k (.inr h))⟩;rw [List.getElem?_append_right (by omega),show j - xs.length=j - E.length by omega];exact k1
theorem aM8 {w y:World} {f:Nat} {u:Array Value} {E:List Pc} (g:w.grownBy y none) (h:bT y (fun k=>w.heap.size<=k/\k<y.heap.size) f u E) :
  PaR (y.alloc (Obj.cells #[.func (.func f) #[] u] 92)) (fun k=>w.heap.size<=k/\k<(y.alloc (Obj.cells #[.func (.func f) #[] u] 92)).heap.size) (.slice (some ⟨y.heap.size,0,none⟩) 1 1) [E]:=by
 have G:=World.grownBy_alloc y (Obj.cells #[.func (.func f) #[] u] 92) none;refine ⟨_,1,rfl,Nat.le_refl _,by unfold maxLen;omega,fun _=>⟨y.heap.size,0,rfl,⟨g.size,by simp⟩,by simp,fun j d A=>?_⟩⟩
 match j,A with
 | 0,A=>simp at A;subst A;exact ⟨f,u,by simp [go_sem],h.at (fun k D=>⟨D.1,by simp;omega⟩) (fun k D=>G.block k D.2 (by simp))⟩
 | j+1,A=>simp at A
theorem aFH {w A:World} {f f2:Nat} {y u:Array Value} {H G:List Pc} (g:w.grownBy A none) (h:bT A (fun k=>w.heap.size<=k/\k<A.heap.size) f y H) (L:bT A (fun k=>w.heap.size<=k/\k<A.heap.size) f2 u G) :
  PaR (A.alloc (Obj.cells #[.func (.func f) #[] y,.func (.func f2) #[] u] 92)) (fun k=>w.heap.size<=k/\k<(A.alloc (Obj.cells #[.func (.func f) #[] y,.func (.func f2) #[] u] 92)).heap.size) (.slice (some ⟨A.heap.size,0,none⟩) 2 2) [H,G]:=by
 have J:=World.grownBy_alloc A (Obj.cells #[.func (.func f) #[] y,.func (.func f2) #[] u] 92) none;refine ⟨_,2,rfl,Nat.le_refl _,by unfold maxLen;omega,fun _=>⟨A.heap.size,0,rfl,⟨g.size,by simp⟩,by simp,fun j d D=>?_⟩⟩
 match j,D with
 | 0,D=>simp at D;subst D;exact ⟨f,y,by simp [go_sem],h.at (fun k E=>⟨E.1,by simp;omega⟩) (fun k E=>J.block k E.2 (by simp))⟩
 | 1,D=>simp at D;subst D;exact ⟨f2,u,by simp [go_sem],L.at (fun k E=>⟨E.1,by simp;omega⟩) (fun k E=>J.block k E.2 (by simp))⟩
 | j+2,D=>simp at D
theorem aGp {w y:World} {f:Nat} {u:Array Value} {E:List Pc} (g:w.grownBy y none) (h:bT y (fun k=>w.heap.size<=k/\k<y.heap.size) f u E) :
  PoL w.heap.size (y.alloc (Obj.cells #[.func (.func f) #[] u] 92)) (.slice (some ⟨y.heap.size,0,none⟩) 1 1) [E]:=by
 have G:=World.grownBy_alloc y (Obj.cells #[.func (.func f) #[] u] 92) none;refine ⟨fun k=>w.heap.size<=k/\k<y.heap.size,[.func (.func f) #[] u],⟨by simp,.inr ⟨y.heap.size,1,#[.func (.func f) #[] u],rfl,g.size,by show (y.heap.push _)[y.heap.size]?=_;simp,Nat.le_refl _,by unfold maxLen;omega,by simp,by simp⟩⟩,fun k A=>⟨A.1,by have:=A.2;simp;omega,fun e=>by have H:=A.2;simp only [Value.ownBlock,Option.some.injEq] at e;omega⟩,fun j d D=>?_⟩
 match j,D with
 | 0,D=>simp at D;subst D;exact ⟨f,u,rfl,h.at (fun k A=>A) (fun k A=>G.block k A.2 (by simp))⟩
 | j+1,D=>simp at D
theorem bT.more {w y A:World} {B:Nat} {f:Nat} {j:Array Value} {D:List Pc} (h:bT y (fun k=>w.heap.size<=k/\k<y.heap.size) f j D) (E:B<=w.heap.size) (g:y.grownBy A none):bT A (fun k=>B<=k/\k<A.heap.size) f j D:=
 h.at (fun k u=>⟨Nat.le_trans E u.1,Nat.lt_of_lt_of_le u.2 g.size⟩) (fun k u=>g.block k u.2 (by simp))
end Go.Proofs.YtgifkcpdihphlaaGreatDoor
