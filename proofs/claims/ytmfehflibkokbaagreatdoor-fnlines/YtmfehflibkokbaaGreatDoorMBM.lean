import Derived.RegionTactic
import Derived.ChangeAlike
import Derived.BigRegion
import Derived.Test.YtmfehflibkokbaaGreatDoorMBL
set_option maxHeartbeats 16000000
set_option maxRecDepth 100000
namespace Go.Proofs.YtmfehflibkokbaaGreatDoor
open Go.Proofs.Tryz
open Go.RowKit
attribute [-go_sem] Builtin.append_
theorem aAU {a b:World} (g:a.grownBy b none) (c o:Nat) (x:Value) (D:c<a.heap.size):(a.setCell ⟨c,o,none⟩ x).grownBy (b.setCell ⟨c,o,none⟩ x) none:=by
 refine ⟨g.os,g.tape,g.output,by simpa using g.size,fun k A _=>?_⟩;have y:k<a.heap.size:=(by simpa using A);have e:=g.block k y (by simp)
 by_cases h:k=c
 ·subst h;unfold World.setCell;simp only [Array.getElem?_modify,if_true,e]
 ·rw [Below.heap_setCell _ _ _ _ (by simpa using h),Below.heap_setCell _ _ _ _ (by simpa using h)];exact e
theorem aJj (H bd:Nat) (ps:List Pc) (t:List Int) (tv v:Value) (w0 w W X:World) (hv:∃ E,w0.cell? ⟨bd,0,none⟩=some E/\DfR H w0 E ps) (S:W.cell? ⟨bd,0,none⟩=some v) (G:w0.grownBy w none) (A:w.grownBy W none) (M:TxO w0.heap.size w tv t) (D:bd<H) (hH:H<=w0.heap.size)
  (J:X=((W.setCell ⟨bd,2,none⟩ (.bool false)).drew).drew):DfR H (w0.setCell ⟨bd,2,none⟩ (.bool false)) v ps/\TxO (w0.setCell ⟨bd,2,none⟩ (.bool false)).heap.size X tv t/\(w0.setCell ⟨bd,2,none⟩ (.bool false)).grownBy X none:=by
 obtain ⟨E,Z,h2⟩:=hv;have e:=(aA G A).cell Z (by simp);rw [S] at e;cases e;have y:∀ U:World,U.grownBy U.drew none:=fun U=>⟨rfl,rfl,rfl,Nat.le_refl _,fun _ _ _=>rfl⟩;refine ⟨h2.set _ _ _ D,?_,?_⟩
 ·have N:W.grownBy (W.setCell ⟨bd,2,none⟩ (.bool false)) (some bd):=⟨rfl,rfl,rfl,by simp,fun i _ hn=>Below.heap_setCell _ _ _ _ (fun e=>hn (by rw [e]))⟩;have Y:=((M.K A).row N (fun x e h=>by cases h;have:=(M.lt bd e).1;omega));rw [J];have O:=(Y.K (y _)).K (y _);simpa using O
 ·rw [J];exact aA (aA (aAU (aA G A) bd 2 (.bool false) (by omega)) (y _)) (y _)
theorem aAx (H bd:Nat) (ps:List Pc) (fb:Bool) (p:Pc) (w0 w W:World) (J:gG H w0 bd (ps,fb)) (E:w0.grownBy w none) (y:w.grownBy W none) (A:bd<H) (X:H<=w0.heap.size) (M:nJ (ps,fb) p=(ps,true)) :
  gG H (W.setCell ⟨bd,2,none⟩ (.bool true)).drew bd (nJ (ps,fb) p)/\Frd H bd w (W.setCell ⟨bd,2,none⟩ (.bool true)).drew:=by
 have h:=(J.K E).K y;obtain ⟨O,G,N⟩:=h.v;have D:∀ U:World,U.grownBy U.drew none:=fun U=>⟨rfl,rfl,rfl,Nat.le_refl _,fun _ _ _=>rfl⟩;have S:=E.size;refine ⟨?_,(Frd.grown y (by omega) (fun x e=>by cases e)).trans ((Frd.set H bd W 2 (.bool true)).trans (Frd.grown (D _) (by have:=y.size;simp;omega) (fun x e=>by cases e)))⟩;rw [M];have c:∀ j,j≠2->(W.setCell ⟨bd,2,none⟩ (.bool true)).cell? ⟨bd,j,none⟩=W.cell? ⟨bd,j,none⟩:=fun j Y=>World.cell?_setCell_other _ _ _ _ (by intro e;have:=congrArg Addr.off e;simp only at this;omega);refine gG.K (w:=W.setCell ⟨bd,2,none⟩ (.bool true)) ⟨⟨O,by rw [c 0 (by omega)];exact G,N.set _ _ _ A⟩,by rw [c 1 (by omega)];exact h.r,?_,fun j=>by simpa using h.fz j,h.n,h.sm⟩ (D _);have:=h.f;simp [go_sem,this]
theorem aLl (H bd:Nat) (ps:List Pc) (p:Pc) (w Y:World) (v x:Value) (y:DfR H Y v (ps++[p])) (M:Y.cell? ⟨bd,0,none⟩=some v) (D:Y.cell? ⟨bd,1,none⟩=some x) (G:Y.cell? ⟨bd,2,none⟩=some (.bool false)) (J:∀ j,Y.frozen? ⟨bd,j,none⟩=false) (N:Frd H bd w Y) (A:bd<H)
  (S:ps.length<40000) (O:¬ 100000 - cM ps<(p.t.length:Int)):gG H (Y.setCell ⟨bd,1,none⟩ (.int .i64 (100000 - cM (ps++[p])))).drew bd (ps++[p],false)/\Frd H bd w (Y.setCell ⟨bd,1,none⟩ (.int .i64 (100000 - cM (ps++[p])))).drew:=by
 have E:∀ U:World,U.grownBy U.drew none:=fun U=>⟨rfl,rfl,rfl,Nat.le_refl _,fun _ _ _=>rfl⟩;have c:∀ j,j≠1->(Y.setCell ⟨bd,1,none⟩ (.int .i64 (100000 - cM (ps++[p])))).cell? ⟨bd,j,none⟩=Y.cell? ⟨bd,j,none⟩:=fun j X=>World.cell?_setCell_other _ _ _ _ (by intro e;have:=congrArg Addr.off e;simp only at this;omega);refine ⟨gG.K (w:=Y.setCell ⟨bd,1,none⟩ (.int .i64 (100000 - cM (ps++[p])))) ⟨⟨v,by rw [c 0 (by omega)];exact M,y.set _ _ _ A⟩,by simp [go_sem,D],by rw [c 2 (by omega)];exact G,fun j=>by simpa using J j,by simp;omega,by simp only [rU];omega⟩ (E _),?_⟩;have h:=N.trans (Frd.set H bd Y 1 (.int .i64 (100000 - cM (ps++[p]))));exact ⟨h.os,h.tape,h.output,h.size,h.block⟩
theorem aCC (H bd:Nat) (s:List Pc × Bool) (p:Pc) (tv:Value) (w0 w:World) (hd:gG H w0 bd s) (g0:w0.grownBy w none) (ht:TxO w0.heap.size w tv p.t) (J:bd<H) (hH:H<=w0.heap.size) (hn:p.t.length<=1000000000) :
  Calls prog 99 #[.pointer (some ⟨bd,0,none⟩),.agg #[.int .i64 p.k,tv,.int .i64 p.n]] w fun e w'=>e=.returned (.tuple #[])/\gG H w' bd (nJ s p)/\Frd H bd w w':=by
 have E:=hd.K g0;obtain ⟨dv,c0,b6⟩:=E.v;have c1:=E.r;have c2:=E.f;have fz:=E.fz;have g8:=E.n;have l5:=E.sm;have l2:=iC s.1;obtain ⟨ta,A,g9,_,_⟩:=ht.sl;obtain ⟨da,G,g7⟩:=b6.sl;have HD:=aB hd;have HT:=aB ht;have HG:=aB g0;have m2:=g0.size;subst g9 g7;obtain ⟨W,D⟩:∃ W,W=w.alloc (Obj.cells #[Value.int IntKind.i64 p.k,.slice ta p.t.length A,Value.int IntKind.i64 p.n] 95):=⟨_,rfl⟩;have gW:w.grownBy W none:=(by rw [D];exact gWA);have sW:W.heap.size=w.heap.size+1:=(by rw [D];simp);have d0:=gW.cell c0 (by simp);have d1:=gW.cell c1 (by simp);have d2:=gW.cell c2 (by simp);have d3:W.cell? ⟨w.heap.size,1,none⟩=some (.slice ta p.t.length A):=(by rw [D];simp [go_sem]);have e0:W.cell? ⟨w.heap.size,0,none⟩=some (.int .i64 p.k):=(by rw [D];simp [go_sem]);have e2:W.cell? ⟨w.heap.size,2,none⟩=some (.int .i64 p.n):=(by rw [D];simp [go_sem]);have f2:∀ j,W.frozen? ⟨bd,j,none⟩=false:=fun j=>by rw [World.frozen?_of_block (gW.block bd (World.block_lt_of_cell? w _ c0) (by simp))];exact fz j
 have h8:=f2 2;have GW:=aB gW;have HW:=aB D;clear c0 c1 c2 fz E hd ht g0 b6 gW;obtain ⟨ps,c3⟩:=s;simp only at *;cases c3 with
 | true=>
   have HR:=aB (show nJ (ps,true) p=(ps,true) by simp [nJ])
   go_enter func99,ntmps99
   go_wp2;rw [<- HW.out];clear D
   go_region
   go_wp2;refine bodyPost_ret (results_none rfl _ _ _) rfl ?_;exact ⟨rfl,aAx H bd ps true p w0 w W HD.out HG.out GW.out J hH HR.out⟩
 | false=>
   by_cases hA:ps.length=40000
   ·have HR:=aB (show nJ (ps,false) p=(ps,true) by simp [nJ,hA]);have f7:((ps.length:Int)==40000)=true:=by simp;omega
    go_enter func99,ntmps99
    go_wp2;rw [<- HW.out];clear D
    go_region
    go_wp2;refine bodyPost_ret (results_none rfl _ _ _) rfl ?_;exact ⟨rfl,aAx H bd ps false p w0 w W HD.out HG.out GW.out J hH HR.out⟩
   ·have f7:((ps.length:Int)==40000)=false:=by simp;omega
    by_cases hB:100000 - cM ps<(p.t.length:Int)
    ·have HR:=aB (show nJ (ps,false) p=(ps,true) by simp [nJ,hB]);have h9:decide (100000 - cM ps<(p.t.length:Int))=true:=by simpa using hB
     go_enter func99,ntmps99
     go_wp2;rw [<- HW.out];clear D;generalize 100000 - cM ps=rm at *
     go_region
     go_wp2;refine bodyPost_ret (results_none rfl _ _ _) rfl ?_;exact ⟨rfl,aAx H bd ps false p w0 w W HD.out HG.out GW.out J hH HR.out⟩
    ·have HR:=aB (show nJ (ps,false) p=(ps++[p],false) by unfold nJ;rw [if_neg (by simp;omega)]);have h9:decide (100000 - cM ps<(p.t.length:Int))=false:=(by simpa using hB);have g4:Hid (100000 - cM (ps++[p])=100000 - cM ps - p.t.length):=(by unfold Hid;rw [rU];omega);obtain ⟨X,M⟩:∃ X,X=((W.setCell ⟨bd,2,none⟩ (.bool false)).drew).drew:=⟨_,rfl⟩;obtain ⟨Z,c5,gX⟩:=aJj H bd ps p.t (.slice ta p.t.length A) (.slice da ps.length G) w0 w W X HD.out.v d0 HG.out GW.out HT.out J hH M;have c4:X.heap.size=w.heap.size+1:=(by rw [M];simp [sW]);obtain ⟨v2,S,a8,o2,g2,a2,c2,g3⟩:=Z.push p.k p.n _ p.t gX c5 (by simpa using hH) (by omega);rw [c4] at a8;have i0:=aB o2;have O:∀ x,(Value.slice da ps.length G).ownBlock=some x->H<=x:=fun x e=>(Z.lt x e).1
     have bX:∀ j,X.cell? ⟨bd,j,none⟩=if j=2 then some (.bool false) else W.cell? ⟨bd,j,none⟩:=fun j=>by
      rw [M]
      by_cases h:j=2
      ·subst h;simp [go_sem,d2]
      ·rw [if_neg h];show (W.setCell _ _).cell? _=_;rw [World.cell?_setCell_other _ _ _ _ (by intro e;have:=congrArg Addr.off e;simp only at this;omega)]
     have wX:∀ j,X.cell? ⟨w.heap.size,j,none⟩=W.cell? ⟨w.heap.size,j,none⟩:=fun j=>by
      rw [M]
      show (W.setCell _ _).cell? _=_
      rw [World.cell?_setCell_other _ _ _ _ (by intro e;have:=congrArg Addr.block e;simp only at this;omega)]
     have fX:∀ j,X.frozen? ⟨bd,j,none⟩=false:=fun j=>by rw [M];simpa using f2 j
     obtain ⟨I,hI⟩:∃ I:World->Prop,I=(fun U:World=>U.cell? ⟨bd,0,none⟩=some (.slice da ps.length G)/\U.frozen? ⟨bd,0,none⟩=false/\U.cell? ⟨w.heap.size,0,none⟩=some (.int .i64 p.k)/\U.cell? ⟨w.heap.size,1,none⟩=some (.slice ta p.t.length A)/\U.cell? ⟨w.heap.size,2,none⟩=some (.int .i64 p.n)):=⟨_,rfl⟩;have y:I X:=(by rw [hI];exact ⟨by rw [bX];exact d0,fX 0,by rw [wX];exact e0,by rw [wX];exact d3,by rw [wX];exact e2⟩);have gA:=World.grownBy_alloc X (Obj.cells #[.int .i64 p.k,.slice ta p.t.length A,.int .i64 p.n] 95) none
     have b2:∀ (U:World) (r:Option Nat),X.grownBy U r->(∀ x,r=some x->x≠bd/\x≠w.heap.size)->I U:=fun U r g hr=>by
      rw [hI] at y ⊢;have n1:some bd≠r:=fun e=>(hr bd e.symm).1 rfl;have n2:some w.heap.size≠r:=fun e=>(hr _ e.symm).2 rfl;exact ⟨g.cell y.1 n1,by rw [World.frozen?_of_block (g.block bd (World.block_lt_of_cell? X _ y.1) n1)];exact y.2.1,g.cell y.2.2.1 n2,g.cell y.2.2.2.1 n2,g.cell y.2.2.2.2 n2⟩
     have b8:=b2 _ none gA (fun x e=>by cases e);have N:=b2 _ _ g2 (fun x e=>by have h1:=O x e;have h2:=(Z.lt x e).2;simp at h2;have:=HG.out.size;omega);have G2:=aB g2;have l0:=g2.size;have q1:S.cell? ⟨bd,1,none⟩=some (.int .i64 (100000 - cM ps)):=g2.cell (by rw [bX];simpa using d1) (fun e=>by have:=O bd e.symm;omega);have q2:S.cell? ⟨bd,2,none⟩=some (.bool false):=g2.cell (by rw [bX];simp) (fun e=>by have:=O bd e.symm;omega)
     have qf:∀ j,S.frozen? ⟨bd,j,none⟩=false:=fun j=>by
      rw [World.frozen?_of_block (g2.block bd (by rw [c4];have:=World.block_lt_of_cell? _ _ q1;omega) (fun e=>by have:=O bd e.symm;omega))];exact fX j
     have i2:Hid (Frd H bd w S):=((Frd.grown GW.out (by omega) (fun x e=>by cases e)).trans ((Frd.set H bd W 2 (.bool false)).trans ⟨by rw [M];rfl,by rw [M];rfl,by rw [M];rfl,by rw [M];simp,fun k _ _=>by rw [M];rfl⟩)).trans (Frd.grown g2 (by omega) (fun x e=>.inl (O x e)));have QF:=aB qf;have f5:=qf 1;have h6:=qf 0;subst g3;have b5:=N;rw [hI] at b5;obtain ⟨y0,y1,y2,y3,y4⟩:=b5;have k4:=iC ps;have f3:=aB M;clear o2 g2 gA b2 wX bX Z c5 gX qf M
     go_enter func99,ntmps99
     go_wp2;rw [<- HW.out];clear D;generalize f8:100000 - cM ps=rm at *
     go_region
     go_wp2;refine aZ I (fun i=>i==10) (by kernel_rfl) ?_;rw [<- f3.out]
     show fJ _ _ _ _ _ _ 11 (Array.replicate 11 false) _ _
     refine bK (i:=0) (.pointer (some ⟨bd,0,none⟩)) rfl y (bB rfl (fun W D=>by go_simp)) ?_;refine bK (i:=1) (.pointer (some ⟨bd,0,none⟩)) rfl y (bB rfl (fun W D=>by go_simp)) ?_;refine bK (i:=2) (.pointer (some ⟨bd,0,none⟩)) rfl y (bB rfl (fun W D=>by go_simp)) ?_;refine bK (i:=3) (.pointer (some ⟨bd,0,none⟩)) rfl y (bB rfl (fun W D=>by go_simp)) ?_;refine bK (i:=4) (.slice da ps.length G) rfl y (bB rfl (fun W D=>by rw [hI] at D;obtain ⟨h1,h2,h3,h4,h5⟩:=D;go_simp)) ?_;refine bK (i:=5) (.agg #[.int .i64 p.k,.slice ta p.t.length A,.int .i64 p.n]) rfl y (bB rfl (fun W D=>by rw [hI] at D;obtain ⟨h1,h2,h3,h4,h5⟩:=D;go_simp)) ?_;generalize hG:Act.put _ _ _=A0;simp [Act.put] at hG;subst hG;refine aD (i:=6) (by kernel_rfl) (aF (w':=X.alloc (Obj.cells #[.int .i64 p.k,.slice ta p.t.length A,.int .i64 p.n] 95)) (v:=.slice (some ⟨X.heap.size,0,none⟩) 1 1) rfl rfl (by go_simp) ⟨.inr b8,?_⟩);refine aD (i:=7) (by kernel_rfl) (aF (w':=S) (v:=.slice a2 (ps.length+1) c2) rfl rfl (by go_simp) ⟨.inr N,?_⟩);refine aD (i:=8) (by kernel_rfl) (aF (w':=S) (v:=.pointer (some ⟨bd,0,none⟩)) rfl rfl (by go_simp) ⟨.inr N,?_⟩);refine aD (i:=9) (by kernel_rfl) (aF (w':=S) (v:=.pointer (some ⟨bd,0,none⟩)) rfl rfl (by go_simp) ⟨.inr N,?_⟩);refine aD (i:=10) (by kernel_rfl) (eA (w':=S.setCell ⟨bd,0,none⟩ (.slice a2 (ps.length+1) c2)) rfl rfl (by go_simp) ⟨.inl rfl,?_⟩);refine bL (by kernel_rfl) ?_ _;subst hI;obtain ⟨Y,hY⟩:∃ Y,Y=S.setCell ⟨bd,0,none⟩ (.slice a2 (ps.length+1) c2):=⟨_,rfl⟩;have b1:∀ j,j≠0->Y.cell? ⟨bd,j,none⟩=S.cell? ⟨bd,j,none⟩:=fun j hj=>by rw [hY];exact World.cell?_setCell_other _ _ _ _ (by intro e;have:=congrArg Addr.off e;simp only at this;omega)
     have r1:Y.cell? ⟨bd,1,none⟩=some (.int .i64 rm):=(by rw [b1 1 (by omega)];exact q1);have r2:Y.cell? ⟨bd,2,none⟩=some (.bool false):=(by rw [b1 2 (by omega)];exact q2);have r0:Y.cell? ⟨bd,0,none⟩=some (.slice a2 (ps.length+1) c2):=(by rw [hY];simp [go_sem,y0]);have r3:Y.cell? ⟨w.heap.size,1,none⟩=some (.slice ta p.t.length A):=(by rw [hY,World.cell?_setCell_other _ _ _ _ (by intro e;have:=congrArg Addr.block e;simp only at this;omega)];exact y3);have rf:∀ j,Y.frozen? ⟨bd,j,none⟩=false:=fun j=>by rw [hY];simpa using QF.out j
     have k6:=rf 1;have RF:=aB rf;have i1:Hid (DfR H Y (.slice a2 (ps.length+1) c2) (ps++[p])):=(by unfold Hid;rw [hY];exact i0.out.set _ _ _ J);have g1:Hid (Frd H bd w Y):=(by unfold Hid;rw [hY];exact i2.out.trans (Frd.set _ _ _ _ _));clear y b8 N a8 y0 y1 y2 y3 y4 q1 q2 h6 f5 b1 rf d0 d1 d2 d3 e0 e2 f2 h8;go_wp2;rw [<- hY];clear hY
     go_region
     all_goals go_wp2
     all_goals go_end0
     all_goals rw [HR.out]
     all_goals have a6:=aLl H bd ps p w Y _ _ i1.out r0 r1 r2 RF.out g1.out J (by have:=g8;omega) (by have:=hB;rw [<- f8] at this;omega)
     all_goals rw [g4.out] at a6
     all_goals have k3:rm<=100000:=by omega
     all_goals have k5:(p.t.length:Int)<=rm:=by omega
     all_goals have f9:IntKind.i64.wrap (rm - ↑p.t.length)=rm - ↑p.t.length:=by rw [IntKind.wrap_i64];omega
     all_goals rw [f9]
     all_goals exact ⟨rfl,a6⟩
end Go.Proofs.YtmfehflibkokbaaGreatDoor
namespace Go.Proofs.YtmfehflibkokbaaGreatDoor
open Go.Proofs.Tryz
open Go.RowKit
def bP (w:World) (F:Nat->Prop) (f:Nat) (caps:Array Value) (ps:List Pc):Prop:=
 (∀ (args:Array Value) (W:World),(callFunc f args).run prog W=.ok (.enter f args) W)/\(∀ p∈ps,p.t.length<=1000000000)/\
 ∀ (H bd:Nat) (W:World) (s:List Pc × Bool),(∀ k,F k->k<H/\k≠bd/\W.heap[k]?=w.heap[k]?)->gG H W bd s->bd<H->H<=W.heap.size->
  Calls prog f (#[.pointer (some ⟨bd,0,none⟩)]++caps) W fun e W'=>e=.returned (.tuple #[])/\gG H W' bd (iO s ps)/\Frd H bd W W'
theorem bP.at {w w':World} {F G:Nat->Prop} {f:Nat} {A:Array Value} {ps:List Pc} (h:bP w F f A ps) (E:∀ k,F k->G k) (J:∀ k,F k->w'.heap[k]?=w.heap[k]?):bP w' G f A ps:=
 ⟨h.1,h.2.1,fun H bd W s D=>h.2.2 H bd W s (fun k y=>⟨(D k (E k y)).1,(D k (E k y)).2.1,(D k (E k y)).2.2.trans (J k y)⟩)⟩
theorem cB {w w':World} {b o:Nat} {v:Value} (h:w.cell? ⟨b,o,none⟩=some v) (e:w'.heap[b]?=w.heap[b]?):w'.cell? ⟨b,o,none⟩=some v:=by
 rw [<- h];exact World.cell?_of_block e
theorem Frd.draftless {H bd:Nat} {w w':World} (h:Frd H bd w w') (y:H<=w.heap.size):H<=w'.heap.size:=Nat.le_trans y h.size
theorem aJa (H bd g:Nat) (s:List Pc × Bool) (h:List Int) (hb:Bys h) (E:h.length<=1000000000) (W:World) (M:W.cell? ⟨g,0,none⟩=some (.string (strOfNums h))) (hd:gG H W bd s) (D:bd<H) (hH:H<=W.heap.size) :
  Calls prog 127 #[.pointer (some ⟨bd,0,none⟩),.pointer (some ⟨g,0,none⟩)] W fun e Y=>e=.returned (.tuple #[])/\gG H Y bd (nJ s ⟨1,h,0⟩)/\Frd H bd W Y:=by
 obtain ⟨cap,X,S,U,A,hs,hf⟩:=zK h hb E W
 have Z:TxO W.heap.size X (.slice (some ⟨W.heap.size,0,none⟩) h.length cap) h:=by
  obtain ⟨a,G,e,k1,k2,k3⟩:=U;simp only [Value.slice.injEq] at e;obtain ⟨rfl,_,rfl⟩:=e;refine .inr ⟨W.heap.size,cap,rfl,k1,k2,Nat.le_refl _,by omega,fun j y=>⟨?_,hf j y⟩⟩;obtain ⟨b,off,ha,_,M⟩:=k3 (fun e=>by rw [e] at y;simp at y);cases ha;have:=M j y
  rwa [Nat.zero_add] at this
 have J:=aB (aCC H bd s ⟨1,h,0⟩ _ W X hd A Z D hH E);have HG:=aB A;clear hd Z U hf hs A
 go_enter func127,ntmps127
 go_wp2_with fail
 refine J.out.mono ?_;rintro e w2 ⟨rfl,N,O⟩;have HF:=aB ((Frd.grown (bd:=bd) HG.out hH (fun x e=>by cases e)).trans O);have HD:=aB N;clear J N O;go_wp2
 go_end0
 exact ⟨rfl,HD.out,HF.out⟩
theorem cG (y:List Int) (O:Bys y) (D:y.length<=1000000000) (w:World) :
  Calls prog 93 #[.string (strOfNums y)] w fun e w'=>∃ f h,e=.returned (.func (.func f) #[] h)/\bP w' (fun k=>w.heap.size<=k/\k<w'.heap.size) f h (aG y)/\w.grownBy w' none:=by
 go_enter func93,ntmps93
 go_wp2;go_ret;refine ⟨_,_,rfl,⟨fun args W=>by kernel_rfl,fun p E=>by simp [aG] at E;subst E;exact D,fun H bd W s M J A N=>?_⟩,gWA⟩;have G:=M w.heap.size ⟨Nat.le_refl _,by simp⟩;exact aJa H bd w.heap.size s y O D W (cB (w:=w.alloc (Obj.cells #[.string (strOfNums y)] 9)) (by simp [go_sem]) G.2.2) J A N
def PaR (w:World) (F:Nat->Prop) (v:Value) (dss:List (List Pc)):Prop:=
 ∃ a cap,v=.slice a dss.length cap/\dss.length<=cap/\cap<=maxLen/\(dss≠[]->∃ b off,a=some ⟨b,off,none⟩/\F b/\b<w.heap.size/\∀ (j:Nat) (ds:List Pc),dss[j]?=some ds->∃ f caps,w.cell? ⟨b,off+j,none⟩=some (.func (.func f) #[] caps)/\bP w F f caps ds)
theorem PaR.at {w w':World} {F D:Nat->Prop} {v:Value} {A:List (List Pc)} (h:PaR w F v A) (G:∀ k,F k->D k) (hs:w.heap.size<=w'.heap.size) (E:∀ k,F k->w'.heap[k]?=w.heap[k]?):PaR w' D v A:=by
 obtain ⟨a,cap,e,U,h2,Y⟩:=h;refine ⟨a,cap,e,U,h2,fun S=>?_⟩;obtain ⟨b,off,ha,J,Z,O⟩:=Y S;refine ⟨b,off,ha,G b J,by omega,fun j X hj=>?_⟩;obtain ⟨f,y,M,N⟩:=O j X hj;exact ⟨f,y,cB M (E b J),N.at G E⟩
theorem PaR.sl {w:World} {F:Nat->Prop} {v:Value} {y:List (List Pc)} (h:PaR w F v y):Sl v y.length:=by
 obtain ⟨a,cap,e,A,D,_⟩:=h;exact ⟨a,cap,e,A,D⟩
theorem aKt (H bd b1 D:Nat) (s:List Pc × Bool) (F:Nat->Prop) (kd n:Int) (v:Value) (h:List (List Pc)) (W:World) (S:∀ k,F k->k<H/\k≠bd) (A:D<H/\D≠bd) (hl:h.length<=1000000000)
  (c1:W.cell? ⟨b1,0,none⟩=some v) (a4:W.cell? ⟨D,0,none⟩=some (.int .i64 kd)) (a8:W.cell? ⟨D,1,none⟩=some (.slice none 0 0)) (Y:W.cell? ⟨D,2,none⟩=some (.int .i64 n)) (hp:PaR W F v h) (hd:gG H W bd s) (b0:bd<H) (hH:H<=W.heap.size) :
  Calls prog 132 #[.pointer (some ⟨bd,0,none⟩),.pointer (some ⟨b1,0,none⟩),.pointer (some ⟨D,0,none⟩)] W fun e W'=>e=.returned (.tuple #[])/\gG H W' bd (iO s (h.flatten++[⟨kd,[],n⟩]))/\Frd H bd W W':=by
 obtain ⟨a,cap,hv,d1,c9,hh⟩:=id hp;have HH:=aB hh;have HD:=aB hd;subst hv;clear hd hh hp
 go_enter func132,ntmps132
 go_wp2
 go_loopw [8] (fun i U=>∃ (j:Nat),j<=h.length/\i=.int .i64 j/\gG H U bd (iO s (h.take j).flatten)/\Frd H bd W U)
  (fun i _=>h.length - (intOf i).toNat)
 case atStart=>exact ⟨0,Nat.zero_le _,rfl,by simpa [iO] using HD.out,Frd.refl _ _ _⟩
 case round=>
  obtain ⟨j,hj,rfl,E,y⟩:=hrel;have a9:=y.draftless hH
  by_cases G:j<h.length
  ·obtain ⟨b,off,ha,hb,d5,hc⟩:=HH.out (fun e=>by rw [e] at G;simp at G);obtain ⟨f,X,a6,J⟩:=hc j h[j] (by simp [G]);have c2:wr.cell? ⟨b,off+j,none⟩=some (.func (.func f) #[] X):=cB a6 (y.block b (S b hb).1 (S b hb).2);have hE:=J.1;have HC:=aB (J.2.2 H bd wr _ (fun k hk=>⟨(S k hk).1,(S k hk).2,y.block k (S k hk).1 (S k hk).2⟩) E b0 a9);have HT:=aB (show (h.take (j+1)).flatten=(h.take j).flatten++h[j] by rw [show h.take (j+1)=h.take j++[h[j]] by rw [List.take_add_one];simp [G],List.flatten_append,List.flatten_singleton]);have M:=aB y;subst ha;clear a6 J hc E y;generalize h[j]=ds at *
   go_wp2_with fail
   refine HC.out.mono ?_;rintro e w1 ⟨rfl,Z,h2⟩;have O:Hid (gG H w1 bd (iO s (h.take (j+1)).flatten)):=(by unfold Hid;rw [HT.out,rT];exact Z);have N:=aB (M.out.trans h2);clear HC Z h2 HT;go_wp2
   go_roundw
   case rel=>exact ⟨j+1,by omega,by go_num,O.out,N.out⟩
   case measure=>simp [intOf];omega
  ·have b5:j=h.length:=(by omega);subst b5;rw [List.take_length] at E;have q0:wr.cell? ⟨D,0,none⟩=some (.int .i64 kd):=cB a4 (y.block D A.1 A.2);have q1:wr.cell? ⟨D,1,none⟩=some (.slice none 0 0):=cB a8 (y.block D A.1 A.2);have q2:wr.cell? ⟨D,2,none⟩=some (.int .i64 n):=cB Y (y.block D A.1 A.2);have HP:=aB (aCC H bd _ ⟨kd,[],n⟩ (.slice none 0 0) wr wr E (World.grownBy.refl _ _) (TxO.nil _ _) b0 a9 (by simp));have M:=aB y;clear E y c1 a4 a8 Y
   go_wp2_with fail
   refine HP.out.mono ?_;rintro e w1 ⟨rfl,Z,h2⟩;have O:Hid (gG H w1 bd (iO s (h.flatten++[⟨kd,[],n⟩]))):=(by unfold Hid;rw [rT];exact Z);have N:=aB (M.out.trans h2);clear HP Z h2;go_wp2
   go_end0
   exact ⟨rfl,O.out,N.out⟩
theorem aK4 (H bd X:Nat) (s:List Pc × Bool) (F:Nat->Prop) (v:Value) (E:List Pc) (h:List (List Pc)) (W:World) (G:∀ k,F k->k<H/\k≠bd) (a5:X<H/\X≠bd) (hl:h.length<=1000000000)
  (c1:W.cell? ⟨X,0,none⟩=some v) (hp:PaR W F v (E::h)) (hd:gG H W bd s) (O:bd<H) (hH:H<=W.heap.size) :
  Calls prog 98 #[.pointer (some ⟨bd,0,none⟩),.pointer (some ⟨X,0,none⟩)] W fun e W'=>e=.returned (.tuple #[])/\gG H W' bd (iO s (E++iS h))/\Frd H bd W W':=by
 obtain ⟨a,cap,hv,c0,b6,hh⟩:=id hp;obtain ⟨b,off,ha,hb,g2,hc⟩:=hh (by simp);obtain ⟨f0,c4,b4,D⟩:=hc 0 E rfl;have HH:=aB hc;have c5:=D.1;have b3:=aB (D.2.2 H bd W s (fun k M=>⟨(G k M).1,(G k M).2,rfl⟩) hd O hH);have b7:(E::h).length=h.length+1:=rfl;rw [b7] at hv c0;rw [Nat.add_zero] at b4;have f9:cap<=9223372036854775807:=(by unfold maxLen at b6;omega);subst ha hv;clear hd hh hp D hc
 go_enter func98,ntmps98
 go_wp2_with fail
 refine b3.out.mono ?_;rintro e w1 ⟨rfl,b0,J⟩;have a9:=aB b0;have a7:=aB J;have b5:w1.cell? ⟨X,0,none⟩=some (.slice (some ⟨b,off,none⟩) (h.length+1) cap):=cB c1 (J.block X a5.1 a5.2);clear b3 b0 J b4 c5;have d4:1<=cap:=by omega
 by_cases Y:cap=1
 ·have b8:h=[]:=List.eq_nil_of_length_eq_zero (by omega);subst b8 Y;simp only [List.length_nil,Nat.zero_add] at b5 ⊢;go_wp2
  go_loopw [13] (fun i U=>i=.int .i64 0/\w1=U) (fun i _=>0)
  case atStart=>exact ⟨rfl,rfl⟩
  case round=>
   obtain ⟨rfl,rfl⟩:=hrel;go_wp2
   go_end0
   exact ⟨rfl,by simpa [iS] using a9.out,a7.out⟩
 ·have d1:(cap==1)=false:=(by simpa using Y);go_wp2
  go_loopw [13] (fun i U=>∃ (j:Nat),j<=h.length/\i=.int .i64 j/\gG H U bd (iO s (E++iS (h.take j)))/\Frd H bd W U)
   (fun i _=>h.length - (intOf i).toNat)
  case atStart=>exact ⟨0,Nat.zero_le _,rfl,by simpa [iS] using a9.out,a7.out⟩
  case round=>
   obtain ⟨j,hj,rfl,A,y⟩:=hrel;have b2:=y.draftless hH
   by_cases a8:j<h.length
   ·obtain ⟨f,Z,a6,N⟩:=HH.out (j+1) h[j] (by simp [a8]);have d7:wr.cell? ⟨b,off+1+j,none⟩=some (.func (.func f) #[] Z):=cB (by rw [show off+1+j=off+(j+1) by omega];exact a6) (y.block b (G b hb).1 (G b hb).2);have hE:=N.1;have HC:=aB (N.2.2 H bd wr _ (fun k M=>⟨(G k M).1,(G k M).2,y.block k (G k M).1 (G k M).2⟩) A O b2);have HT:=aB (show iS (h.take (j+1))=iS (h.take j)++(h[j]++[nF]) by rw [show h.take (j+1)=h.take j++[h[j]] by rw [List.take_add_one];simp [a8],aBu]);have b9:=aB y;clear a6 N A y;generalize h[j]=ds at *
    go_wp2_with fail
    refine HC.out.mono ?_;rintro e w2 ⟨rfl,h1,S⟩;have HP:=aB (aCC H bd _ ⟨6,[],0⟩ (.slice none 0 0) w2 w2 h1 (World.grownBy.refl _ _) (TxO.nil _ _) O (S.draftless b2) (by simp));have c8:=aB (b9.out.trans S);clear HC h1 S
    go_wp2_with fail
    refine HP.out.mono ?_;rintro e w3 ⟨rfl,h1,S⟩
    have c6:Hid (gG H w3 bd (iO s (E++iS (h.take (j+1))))):=by
     unfold Hid;rw [HT.out];have e:E++(iS (h.take j)++(ds++[nF]))=((E++iS (h.take j))++ds)++[nF]:=(by simp);rw [e,rT,rT];exact h1
    have c3:=aB (c8.out.trans S);clear HP h1 S HT;go_wp2
    go_roundw
    case rel=>exact ⟨j+1,by omega,by go_num,c6.out,c3.out⟩
    case measure=>simp [intOf];omega
   ·have c9:j=h.length:=(by omega);subst c9;rw [List.take_length] at A;have c7:=aB A;clear A;go_wp2
    go_end0
    exact ⟨rfl,c7.out,y⟩
theorem aGT {y:List (List Pc)} {p:Pc} (h:p∈y.flatten) (E:∀ A∈y,∀ q∈A,q.t.length<=1000000000):p.t.length<=1000000000:=by
 obtain ⟨A,D,G⟩:=List.mem_flatten.1 h;exact E A D p G
theorem PaR.texts {w:World} {F:Nat->Prop} {v:Value} {y:List (List Pc)} (h:PaR w F v y):∀ E∈y,∀ q∈E,q.t.length<=1000000000:=by
 intro E A;obtain ⟨j,D,rfl⟩:=List.getElem_of_mem A;obtain ⟨a,cap,e,S,X,N⟩:=h;obtain ⟨b,off,U,Y,O,M⟩:=N (fun e=>by rw [e] at D;simp at D);obtain ⟨f,G,_,J⟩:=M j y[j] (by simp [D]);exact J.2.1
theorem aGO {A:List (List Pc)} {p:Pc} (h:p∈iS A) (G:∀ D∈A,∀ q∈D,q.t.length<=1000000000):p.t.length<=1000000000:=by
 unfold iS at h;obtain ⟨D,E,y⟩:=List.mem_flatMap.1 h;rcases List.mem_append.1 y with y | y
 ·exact G D E p y
 ·simp [nF] at y;subst y;simp
theorem lO (G n:Int) (v:Value) (y:List (List Pc)) (F:Nat->Prop) (w:World) (M:PaR w F v y) (Y:∀ k,F k->k<w.heap.size) (S:y.length<=1000000000) :
  Calls prog 97 #[.agg #[.int .i64 G,.slice none 0 0,.int .i64 n],v] w fun e w'=>∃ f A,e=.returned (.func (.func f) #[] A)/\bP w' (fun k=>F k\/(w.heap.size<=k/\k<w'.heap.size)) f A (y.flatten++[⟨G,[],n⟩])/\w.grownBy w' none:=by
 obtain ⟨a,cap,hv,_,_⟩:=M.sl;subst hv
 go_enter func97,ntmps97
 go_wp2;go_ret;have g:=aA (World.grownBy_alloc w (Obj.cells #[.int .i64 G,.slice none 0 0,.int .i64 n] 95) none) (World.grownBy_alloc _ (Obj.cells #[.slice a y.length cap] 116) _);refine ⟨_,_,rfl,⟨fun args W=>by kernel_rfl,fun p h=>?_,fun H bd W s E U N X=>?_⟩,g⟩
 ·rcases List.mem_append.1 h with h | h
  ·exact aGT h M.texts
  ·simp at h;subst h;simp
 ·have D:=E w.heap.size (.inr ⟨Nat.le_refl _,by simp;omega⟩);have O:=E (w.heap.size+1) (.inr ⟨by omega,by simp⟩);have J:PaR W F (.slice a y.length cap) y:=M.at (fun k h=>h) (by have:=O.1;omega) (fun k h=>(E k (.inl h)).2.2.trans (g.block k (Y k h) (by simp)))
  exact aKt H bd (w.heap.size+1) w.heap.size s F G n _ y W (fun k h=>⟨(E k (.inl h)).1,(E k (.inl h)).2.1⟩) ⟨D.1,D.2.1⟩ S
   (cB (by simp [go_sem]) O.2.2) (cB (by simp [go_sem]) D.2.2) (cB (by simp [go_sem]) D.2.2) (cB (by simp [go_sem]) D.2.2) J U N X
theorem aJu (w:World) (F:Nat->Prop):PaR w F (.slice none 0 0) []:=⟨none,0,rfl,Nat.le_refl _,by unfold maxLen;omega,fun h=>absurd rfl h⟩
theorem dW (A:Int) (w:World) :
  Calls prog 56 #[.int .i64 A] w fun e w'=>∃ f y,e=.returned (.func (.func f) #[] y)/\bP w' (fun k=>w.heap.size<=k/\k<w'.heap.size) f y (aH A)/\w.grownBy w' none:=by
 have E:=aB (lO A 0 (.slice none 0 0) [] (fun _=>False) w (aJu _ _) (fun _ h=>h.elim) (by simp))
 go_enter func56,ntmps56
 go_wp2_with fail
 refine E.out.mono ?_;rintro e J ⟨f,y,rfl,D,g⟩;have G:=aB D;clear E D;go_wp2;go_ret;exact ⟨f,y,rfl,G.out.at (fun k h=>h.resolve_left (fun h=>h)) (fun _ _=>rfl),g⟩
theorem rN (v:Value) (y:List (List Pc)) (F:Nat->Prop) (w:World) (D:PaR w F v y) (hF:∀ k,F k->k<w.heap.size) (hl:y.length<=1000000000) :
  Calls prog 57 #[v] w fun e w'=>∃ f A,e=.returned (.func (.func f) #[] A)/\bP w' (fun k=>F k\/(w.heap.size<=k/\k<w'.heap.size)) f A (cV y)/\w.grownBy w' none:=by
 obtain ⟨a,cap,hv,_,_⟩:=D.sl;subst hv;rcases y with _ | ⟨E,y⟩
 ·have X:Hid (∀ W:World,_):=fun W=>dW 0 W;simp only [List.length_nil];have gA:=World.grownBy_alloc w (Obj.cells #[.slice a 0 cap] 116) none;have GA:=aB gA;clear D
  go_enter func57,ntmps57
  go_wp2_with fail
  refine (X.out _).mono ?_;rintro e w1 ⟨f,A,rfl,D,g⟩;have Y:=aB D;have G:=aB (aA GA.out g);clear X D g;go_wp2;go_ret;exact ⟨f,A,rfl,Y.out.at (fun k h=>.inr ⟨by have:=h.1;simp at this;omega,h.2⟩) (fun _ _=>rfl),G.out⟩
 ·have N:(E::y).length=y.length+1:=rfl;rw [N] at *
  go_enter func57,ntmps57
  have Z:(((y.length:Int)+1)==0)=false:=(by simp;omega);go_wp2;go_ret;have g:=World.grownBy_alloc w (Obj.cells #[.slice a (y.length+1) cap] 116) none;refine ⟨_,_,rfl,⟨fun args W=>by kernel_rfl,fun p h=>?_,fun H bd W s J hd U hH=>?_⟩,g⟩
  ·rcases List.mem_append.1 h with h | h
   ·exact D.texts E (by simp) p h
   ·exact aGO h (fun ds S=>D.texts ds (by simp [S]))
  ·have M:=J w.heap.size (.inr ⟨Nat.le_refl _,by simp⟩);have O:PaR W F (.slice a (y.length+1) cap) (E::y):=D.at (fun k h=>h) (by have:=M.1;omega) (fun k h=>(J k (.inl h)).2.2.trans (g.block k (hF k h) (by simp)));exact aK4 H bd w.heap.size s F _ E y W (fun k h=>⟨(J k (.inl h)).1,(J k (.inl h)).2.1⟩) ⟨M.1,M.2.1⟩ (Nat.le_trans (Nat.le_succ _) hl) (cB (by simp [go_sem]) M.2.2) O hd U hH
def PoL (B:Nat) (w:World) (v:Value) (dss:List (List Pc)):Prop:=
 ∃ (F:Nat->Prop) (xs:List Value),w.ownsRow B 56 1 v dss.length xs/\(∀ k,F k->B<=k/\k<w.heap.size/\v.ownBlock≠some k)/\∀ (j:Nat) (ds:List Pc),dss[j]?=some ds->∃ f caps,xs[j]?=some (.func (.func f) #[] caps)/\bP w F f caps ds
theorem PoL.nil (B:Nat) (w:World):PoL B w (.slice none 0 0) []:=⟨fun _=>False,[],⟨by simp,.inl ⟨rfl,rfl⟩⟩,fun _ h=>h.elim,fun j y h=>by simp at h⟩
theorem PoL.lt {B:Nat} {w:World} {v:Value} {y:List (List Pc)} (h:PoL B w v y):∀ k,v.ownBlock=some k->B<=k/\k<w.heap.size:=by
 obtain ⟨F,xs,A,_⟩:=h;exact fun k e=>World.ownsRow.lt A k e
theorem PoL.sl {B:Nat} {w:World} {v:Value} {y:List (List Pc)} (h:PoL B w v y):∃ a cap,v=.slice a y.length cap:=by
 obtain ⟨F,xs,A,_⟩:=h;exact yO A
theorem PoL.K {B:Nat} {w w':World} {v:Value} {D:List (List Pc)} (h:PoL B w v D) (g:w.grownBy w' none):PoL B w' v D:=by
 obtain ⟨F,xs,G,E,N⟩:=h;refine ⟨F,xs,World.ownsRow.kept G g (by cases v.ownBlock<;>simp),fun k y=>⟨(E k y).1,Nat.lt_of_lt_of_le (E k y).2.1 g.size,(E k y).2.2⟩,fun j M S=>?_⟩;obtain ⟨f,A,J,O⟩:=N j M S;exact ⟨f,A,J,O.at (fun _ h=>h) (fun k y=>g.block k (E k y).2.1 (by simp))⟩
theorem PoL.row {B:Nat} {w w':World} {v:Value} {E:List (List Pc)} {r:Nat} (h:PoL B w v E) (g:w.grownBy w' (some r)) (U:r<B):PoL B w' v E:=by
 obtain ⟨F,xs,G,D,N⟩:=h;refine ⟨F,xs,World.ownsRow.kept G g (.inr (fun e=>by have:=(World.ownsRow.lt G r e).1;omega)),fun k y=>⟨(D k y).1,Nat.lt_of_lt_of_le (D k y).2.1 g.size,(D k y).2.2⟩,fun j M S=>?_⟩;obtain ⟨f,A,J,O⟩:=N j M S;exact ⟨f,A,J,O.at (fun _ h=>h) (fun k y=>g.block k (D k y).2.1 (fun e=>by have J:=(D k y).1;simp only [Option.some.injEq] at e;omega))⟩
theorem PoL.base {B B':Nat} {w:World} {v:Value} {y:List (List Pc)} (h:PoL B w v y) (D:B'<=B):PoL B' w v y:=by
 obtain ⟨F,xs,G,E,J⟩:=h;exact ⟨F,xs,dP D G,fun k A=>⟨Nat.le_trans D (E k A).1,(E k A).2⟩,J⟩
theorem PoL.pa {B:Nat} {w:World} {v:Value} {D:List (List Pc)} (h:PoL B w v D):∃ F,(∀ k,F k->B<=k/\k<w.heap.size)/\PaR w F v D:=by
 obtain ⟨F,xs,y,O,Z⟩:=h;refine ⟨fun k=>F k\/v.ownBlock=some k,fun k hk=>hk.elim (fun h=>⟨(O k h).1,(O k h).2.1⟩) (fun h=>World.ownsRow.lt y k h),?_⟩;rcases id y.2 with ⟨hv,M⟩ | ⟨g,cap,a5,hv,hg,N,E,G,_⟩
 ·exact ⟨none,0,by rw [hv,M],by omega,by unfold maxLen;omega,fun J=>absurd (List.eq_nil_of_length_eq_zero M) J⟩
 ·refine ⟨_,cap,hv,E,G,fun J=>⟨g,0,rfl,.inr (by rw [hv];rfl),(World.ownsRow.lt y g (by rw [hv];rfl)).2,fun j Y S=>?_⟩⟩;obtain ⟨f,A,X,h2⟩:=Z j Y S;have U:=(List.getElem?_eq_some_iff.1 S).1;rw [hv] at y;exact ⟨f,A,by rw [Nat.zero_add,World.ownsRow.cellAt y j (by omega)];exact X,h2.at (fun _ h=>.inl h) (fun _ _=>rfl)⟩
theorem aK7:(prog.info? 56).map (fun i=>(i.zero,i.size,i.bytes))=some (some .nilFunc,1,8):=by kernel_rfl
theorem cD (B:Nat) (w:World) (v u:Value) (D A:List (List Pc)) (G:Nat->Prop) (hv:PoL B w v D) (hu:PaR w G u A) (hG:∀ k,G k->B<=k/\k<w.heap.size/\v.ownBlock≠some k) (hB:B<=w.heap.size) (hn:D.length+A.length<=1000000000) :
  ∃ v' w',(Builtin.append_ #[116,116] 116 #[v,u]).run prog w=.ok v' w'/\PoL B w' v' (D++A)/\w.grownBy w' v.ownBlock:=by
 obtain ⟨i0,hi,b6,a7,b5⟩:=info_parts aK7;obtain ⟨F,xs,ho,hF,hp⟩:=id hv;obtain ⟨a,cap,rfl,c6,c4,hq⟩:=hu;cases a with
 | none=>
   have b4:A=[]:=by
    rcases A with _ | ⟨z,zs⟩
    ·rfl
    ·obtain ⟨b,off,ha,_⟩:=hq (by simp);cases ha
   subst b4;exact ⟨v,w,rF B _ _ _ i0 1 underlying116 hi v _ _ ho cap,by rw [List.append_nil];exact hv,World.grownBy.refl _ _⟩
 | some ad=>
   obtain ⟨ys,c8,b3,M⟩:∃ ys:List Value,ys.length=A.length/\(∀ (j:Nat) (O:List Pc),A[j]?=some O->∃ f y,ys[j]?=some (.func (.func f) #[] y)/\bP w G f y O)/\∀ (j:Nat) (x:Value),ys[j]?=some x->w.cell? (ad.add j)=some x/\x.oneCell'=true:=by
    by_cases h0:A=[]
    ·subst h0;exact ⟨[],rfl,fun j O h=>by simp at h,fun j x h=>by simp at h⟩
    ·obtain ⟨b,off,ha,hb,d1,Y⟩:=hq h0;cases ha;refine ⟨(List.range A.length).map fun j=>(w.cell? ⟨b,off+j,none⟩).getD default,by simp,fun j O J=>?_,fun j x Z=>?_⟩
     ·obtain ⟨f,y,U,X⟩:=Y j O J;have E:=(List.getElem?_eq_some_iff.1 J).1;exact ⟨f,y,by simp [E,U],X⟩
     ·have E:j<A.length:=(by have:=(List.getElem?_eq_some_iff.1 Z).1;simpa using this);obtain ⟨f,y,U,X⟩:=Y j A[j] (by simp [E]);simp only [List.getElem?_map,List.getElem?_range E,Option.map_some,U,Option.getD_some,Option.some.injEq] at Z;subst Z;rw [Addr.add_lit];exact ⟨U,rfl⟩
   obtain ⟨v',w',a5,U,X,_,h4⟩:=run_append_own_at (P:=prog) w B 116 116 56 i0 .nilFunc 1 8 underlying116 hi b6 a7 b5 rfl (by decide) v D.length xs ho ad A.length cap ys (by omega) (fun j u J=>(M j u J).1)
    (by intro x Z;obtain ⟨j,J,rfl⟩:=List.getElem_of_mem Z;exact (M j _ (List.getElem?_eq_getElem J)).2) (by unfold maxLen;omega) (by omega) hB
   have b2:∀ x,v'.ownBlock=some x->(v.ownBlock=some x\/x=w.heap.size):=fun x e=>by
    rcases h4 with h | h
    ·exact .inl (by rw [<- h];exact e)
    ·rw [h] at e;cases e;exact .inr rfl
   refine ⟨v',w',a5,⟨fun k=>F k\/G k,xs++ys,by rw [List.length_append];exact U,?_,fun j O J=>?_⟩,X⟩
   ·intro k hk;have S:B<=k/\k<w.heap.size/\v.ownBlock≠some k:=hk.elim (hF k) (hG k);refine ⟨S.1,Nat.lt_of_lt_of_le S.2.1 X.size,fun e=>?_⟩;rcases b2 k e with h | h
    ·exact S.2.2 h
    ·have:=S.2.1;omega
   ·have c3:=ho.1
    have N:∀ k,(F k\/G k)->w'.heap[k]?=w.heap[k]?:=fun k hk=>by
     have S:B<=k/\k<w.heap.size/\v.ownBlock≠some k:=hk.elim (hF k) (hG k);exact X.block k S.2.1 (fun e=>S.2.2 e.symm)
    by_cases E:j<D.length
    ·rw [List.getElem?_append_left E] at J;obtain ⟨f,y,k1,k2⟩:=hp j O J;exact ⟨f,y,by rw [List.getElem?_append_left (by omega)];exact k1,k2.at (fun _ h=>.inl h) (fun k h=>N k (.inl h))⟩
    ·rw [List.getElem?_append_right (by omega)] at J;obtain ⟨f,y,k1,k2⟩:=b3 _ O J;refine ⟨f,y,?_,k2.at (fun _ h=>.inr h) (fun k h=>N k (.inr h))⟩;rw [List.getElem?_append_right (by omega),show j - xs.length=j - D.length by omega];exact k1
theorem aMe {w A:World} {f:Nat} {y:Array Value} {G:List Pc} (g:w.grownBy A none) (h:bP A (fun k=>w.heap.size<=k/\k<A.heap.size) f y G) :
  PaR (A.alloc (Obj.cells #[.func (.func f) #[] y] 56)) (fun k=>w.heap.size<=k/\k<(A.alloc (Obj.cells #[.func (.func f) #[] y] 56)).heap.size) (.slice (some ⟨A.heap.size,0,none⟩) 1 1) [G]:=by
 have J:=World.grownBy_alloc A (Obj.cells #[.func (.func f) #[] y] 56) none;refine ⟨_,1,rfl,Nat.le_refl _,by unfold maxLen;omega,fun _=>⟨A.heap.size,0,rfl,⟨g.size,by simp⟩,by simp,fun j d D=>?_⟩⟩
 match j,D with
 | 0,D=>simp at D;subst D;exact ⟨f,y,by simp [go_sem],h.at (fun k E=>⟨E.1,by simp;omega⟩) (fun k E=>J.block k E.2 (by simp))⟩
 | j+1,D=>simp at D
theorem aEL {w D:World} {f f2:Nat} {A y:Array Value} {N J:List Pc} (g:w.grownBy D none) (h:bP D (fun k=>w.heap.size<=k/\k<D.heap.size) f A N) (O:bP D (fun k=>w.heap.size<=k/\k<D.heap.size) f2 y J) :
  PaR (D.alloc (Obj.cells #[.func (.func f) #[] A,.func (.func f2) #[] y] 56)) (fun k=>w.heap.size<=k/\k<(D.alloc (Obj.cells #[.func (.func f) #[] A,.func (.func f2) #[] y] 56)).heap.size) (.slice (some ⟨D.heap.size,0,none⟩) 2 2) [N,J]:=by
 have M:=World.grownBy_alloc D (Obj.cells #[.func (.func f) #[] A,.func (.func f2) #[] y] 56) none;refine ⟨_,2,rfl,Nat.le_refl _,by unfold maxLen;omega,fun _=>⟨D.heap.size,0,rfl,⟨g.size,by simp⟩,by simp,fun j d E=>?_⟩⟩
 match j,E with
 | 0,E=>simp at E;subst E;exact ⟨f,A,by simp [go_sem],h.at (fun k G=>⟨G.1,by simp;omega⟩) (fun k G=>M.block k G.2 (by simp))⟩
 | 1,E=>simp at E;subst E;exact ⟨f2,y,by simp [go_sem],O.at (fun k G=>⟨G.1,by simp;omega⟩) (fun k G=>M.block k G.2 (by simp))⟩
 | j+2,E=>simp at E
theorem aFP {w A:World} {f:Nat} {y:Array Value} {G:List Pc} (g:w.grownBy A none) (h:bP A (fun k=>w.heap.size<=k/\k<A.heap.size) f y G) :
  PoL w.heap.size (A.alloc (Obj.cells #[.func (.func f) #[] y] 56)) (.slice (some ⟨A.heap.size,0,none⟩) 1 1) [G]:=by
 have J:=World.grownBy_alloc A (Obj.cells #[.func (.func f) #[] y] 56) none;refine ⟨fun k=>w.heap.size<=k/\k<A.heap.size,[.func (.func f) #[] y],⟨by simp,.inr ⟨A.heap.size,1,#[.func (.func f) #[] y],rfl,g.size,by show (A.heap.push _)[A.heap.size]?=_;simp,Nat.le_refl _,by unfold maxLen;omega,by simp,by simp⟩⟩,fun k D=>⟨D.1,by have:=D.2;simp;omega,fun e=>by have M:=D.2;simp only [Value.ownBlock,Option.some.injEq] at e;omega⟩,fun j d E=>?_⟩
 match j,E with
 | 0,E=>simp at E;subst E;exact ⟨f,y,rfl,h.at (fun k D=>D) (fun k D=>J.block k D.2 (by simp))⟩
 | j+1,E=>simp at E
theorem bP.more {w D E:World} {B:Nat} {f:Nat} {y:Array Value} {G:List Pc} (h:bP D (fun k=>w.heap.size<=k/\k<D.heap.size) f y G) (J:B<=w.heap.size) (g:D.grownBy E none):bP E (fun k=>B<=k/\k<E.heap.size) f y G:=
 h.at (fun k A=>⟨Nat.le_trans J A.1,Nat.lt_of_lt_of_le A.2 g.size⟩) (fun k A=>g.block k A.2 (by simp))
end Go.Proofs.YtmfehflibkokbaaGreatDoor
