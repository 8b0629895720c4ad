import Derived.Stop.RegionWithIn
import Derived.Test.YtmfehflibkokbaaGreatDoorMAR
set_option maxHeartbeats 16000000
set_option maxRecDepth 100000
namespace Go.Proofs.YtmfehflibkokbaaGreatDoor
open Go.Proofs.Tryz
open Go.RowKit Go.Shelf
attribute [local go_sem] Oper.semAt_some
theorem vS (fl:Bool):∀ (r:List Tr),(lK fl r).length<=szs r
 | []=>by simp [lK,szs]
 | x::r=>by
   have:=vS fl r
   have h:∀ T:Tr,(jX fl T).length<=sz T:=by
    intro T
    induction T with
    | leaf p=>simp [jX,sz]
    | un p x ih=>simp only [jX,sz,List.length_cons];omega
    | bin p x y ihx ihy=>
      simp only [jX,sz,List.length_cons]
      split
      ·simp only [List.length_append];omega
      ·split<;>omega
   have:=h x;simp only [lK,szs,List.length_append];omega
abbrev dN {n₀:Nat} {w0:World} (ws:List (Nd n₀ w0)):List Value:=ws.map (·.1.1)
abbrev aN {n₀:Nat} {w0:World} (ws:List (Nd n₀ w0)):List Tr:=ws.map (·.1.2)
def It (n₀ tb fb:Nat) (fl:Bool) (w0 W:World) (root:Nd n₀ w0) (I:List (Nd n₀ w0)->World->Prop) (R:World->Prop) (k:Nat) (v:Value) (wr:World):Prop:=
 ∃ (ws pre:List (Nd n₀ w0)),wr.ownsRow W.heap.size 62 1 v ws.length (dN ws)/\k=szs (aN ws).reverse/\k<=140000/\Hid (aN pre++lK fl (aN ws).reverse=jX fl root.1.2)/\I pre wr/\R wr/\Below n₀ w0 wr/\W.heap.size<=wr.heap.size/\Boxed wr fb 4 (.bool fl)/\¬ Xt tb wr fb/\(∀ b,Xt tb wr b->b<wr.heap.size)/\(∀ g,v.ownBlock=some g->¬ Xt tb wr g)
theorem aDR {n₀ tb:Nat} {A B:World} {G:Nat} {v:Value} {n:Nat} {E:List Value} (h:A.ownsRow G 62 1 v n E) (k:KpX n₀ tb A B) (y:∀ g,v.ownBlock=some g->¬ Xt tb A g):B.ownsRow G 62 1 v n E:=by
 refine ⟨h.1,?_⟩;rcases h.2 with J | ⟨g,cap,D,hv,N,M,rest⟩
 ·exact .inl J
 ·exact .inr ⟨g,cap,D,hv,N,k.blk g _ M rfl (y g (by rw [hv];rfl)),rest⟩
theorem aJh {n₀ tb fb:Nat} {fl:Bool} {w0 W:World} {U:Nd n₀ w0} {I:List (Nd n₀ w0)->World->Prop} {R:World->Prop} (hR:∀ A B,R A->KeepsOthers A B->R B)
  (hI:∀ s A B a8,I s A->A.grownBy B a8->(∀ g,a8=some g->W.heap.size<=g/\¬ Xt tb A g)->I s B) (hn₀:n₀<=W.heap.size) (d9:fb<W.heap.size)
  {y Y M:List (Nd n₀ w0)} {x:Nd n₀ w0} {g cap:Nat} {A B C:World} {v':Value} (c1:aN M=vW fl x.1.2)
  (S:A.ownsRow W.heap.size 62 1 (.slice (some ⟨g,0,none⟩) (y++[x]).length cap) (y++[x]).length (dN (y++[x]))) (b7:szs (aN (y++[x])).reverse<=140000) (HS:Hid (aN Y++lK fl (aN (y++[x])).reverse=jX fl U.1.2))
  (c2:Below n₀ w0 A) (d2:W.heap.size<=A.heap.size) (b9:Boxed A fb 4 (.bool fl)) (b2:¬ Xt tb A fb) (a5:∀ b,Xt tb A b->b<A.heap.size) (a7:¬ Xt tb A g)
  (b6:I (Y++[x]) B) (b5:R B) (O:KpX n₀ tb A B) (b0:C.ownsRow W.heap.size 62 1 v' (y.length+(dN M).reverse.length) (dN y++(dN M).reverse)) (G:B.grownBy C (some g)) (c0:v'.ownBlock=some g\/∃ g',v'.ownBlock=some g'/\B.heap.size<=g') :
  ∃ k',k'<szs (aN (y++[x])).reverse/\It n₀ tb fb fl w0 W U I R k' v' C:=by
 have b3:=World.ownsRow.lt S g rfl;have d7:=O.bel.size;have f4:=G.size;have Z:¬ Xt tb B g:=fun h=>by rcases O.mono g h with E | E;exact a7 E;omega
 have b8:tb≠g:=fun e=>Z (.inl e.symm);have a4:=aDR S O (fun g' e=>by cases e;exact a7);have d1:=a5 tb (.inl rfl);have X:∀ b,Xt tb C b ↔ Xt tb B b:=aBW (G.block tb (by omega) (by simp;exact b8));have b1:Boxed B fb 4 (.bool fl):=O.blk fb _ b9 rfl b2;have J:(aN (y++[x])).reverse=x.1.2::(aN y).reverse:=(by simp [aN]);have D:(aN (y++M.reverse)).reverse=vW fl x.1.2++(aN y).reverse:=(by rw [<- c1];simp [aN]);have c7:=aI9 fl x.1.2 (aN y).reverse;rw [J] at b7;have a9:=HS.out;rw [J,tN] at a9;refine ⟨szs (aN (y++M.reverse)).reverse,by rw [J,D];omega,y++M.reverse,Y++[x],?_,rfl,by rw [D];omega,?_,?_,?_,?_,by omega,?_,?_,?_,?_⟩
 ·have e1:(y++M.reverse).length=y.length+(dN M).reverse.length:=(by simp [dN]);have e2:dN (y++M.reverse)=dN y++(dN M).reverse:=(by simp [dN]);rw [e1,e2];exact b0
 ·unfold Hid;rw [D,<- a9];simp [aN]
 ·exact hI _ _ _ _ b6 G (fun g' e=>by cases e;exact ⟨b3.1,Z⟩)
 ·refine hR _ _ b5 (KeepsOthers.of_grownBy G (fun j o e ho=>?_));cases e;rcases a4.2 with ⟨E,_⟩ | ⟨g2,c5,d4,hv,_,hg,_⟩
  ·cases E
  ·cases hv;rw [hg] at ho;cases ho;rfl
 ·exact (c2.trans O.bel).grown G (by omega) (fun k e=>by cases e;omega)
 ·exact b1.kept G (by simp;omega)
 ·intro h;rcases O.mono fb ((X fb).1 h) with E | E
  ·exact b2 E
  ·omega
 ·intro b hb;rcases O.mono b ((X b).1 hb) with E | E
  ·have:=a5 b E;omega
  ·omega
 ·intro g2 N h;have h3:=(X g2).1 h;rcases c0 with E | ⟨g',E,h2⟩
  ·rw [E] at N;cases N;exact Z h3
  ·rw [E] at N;cases N;rcases O.mono _ h3 with h4 | h4
   ·have:=a5 _ h4;omega
   ·omega
theorem aGr (n:Nat) (hn:1<=n) (l rb fb tb n₀:Nat) (fl:Bool) (w0:World) (G:Nd n₀ w0) (I Ix:List (Nd n₀ w0)->World->Prop) (R Rx:World->Prop) (N:Nat) (hN:(jX fl G.1.2).length<=N) (j3:sz G.1.2<=140000) (W:World)
  (hR:∀ A B,R A->KeepsOthers A B->R B)
  (hI:∀ s A B f8,I s A->A.grownBy B f8->(∀ g,f8=some g->W.heap.size<=g/\¬ Xt tb A g)->I s B)
  (hY:∀ J x A,I J A->R A->J.length<N->YieldAt Fence.wide (n - 1) prog l #[x.1.1] A fun e B=>(e=.returned (.bool true)/\I (J++[x]) B/\KpX n₀ tb A B/\R B)\/(e=.returned (.bool false)/\Ix (J++[x]) B/\Rx B))
  (f5:Boxed W rb 62 G.1.1) (f3:Boxed W fb 4 (.bool fl)) (g7:Below n₀ w0 W) (hn₀:n₀<=W.heap.size) (h4:¬ Xt tb W fb) (c1:∀ b,Xt tb W b->b<W.heap.size) (h0:I [] W) (h6:R W) :
  CallsIn Fence.wide n prog 59 #[.func (.yield l) #[] #[],.pointer (some ⟨rb,0,none⟩),.pointer (some ⟨fb,0,none⟩)] W fun e B=>(∃ v,e=.returned v)/\
   ((∃ ys,aN ys=jX fl G.1.2/\I ys B/\R B)\/(∃ J,aN J <+: jX fl G.1.2/\Ix J B/\Rx B)):=by
 have j8:∀ (x:Bool) (w:World),(Op.unary .not (.bool x)).run prog w=.ok (.bool (!x)) w:=fun _ _=>rfl;have hc:=f5.cell;obtain ⟨rt,ru,a9⟩:=G.2.1.form;rw [a9] at hc;have d4:Hid (G.1.1=.iface rt ru):=a9;have H0:Hid (I [] W):=h0;have i9:Hid (R W):=h6;clear f5 a9 h0 h6;refine callsIn_of_wp func59 rfl trivial ?_ rfl;simp only [ntmps59,List.size_toArray,List.length_cons,List.length_nil,Nat.reduceAdd,Nat.reduceSub,Array.replicate_succ,Array.replicate_zero,List.push_toArray,List.append_toArray,List.nil_append,List.cons_append]
 gi_wp2
 gi_loopg [4] (szs [G.1.2]) (fun k v wr=>It n₀ tb fb fl w0 W G I R k v wr)
 case atStart=>
  have hg:W.grownBy (W.alloc (.cells #[.iface rt ru] 62)) none:=gWA;have i5:tb<W.heap.size:=c1 tb (.inl rfl);have hX:∀ b,Xt tb (W.alloc (.cells #[.iface rt ru] 62)) b ↔ Xt tb W b:=aBW (hg.block tb i5 (by simp));refine ⟨[G],[],?_,by simp [aN],by simpa [szs] using j3,by unfold Hid;simp [aN,lK],hI _ _ _ none H0.out hg (fun g e=>by cases e),hR _ _ i9.out (KeepsOthers.alloc _ _),g7.grown hg hn₀ (fun k e=>by cases e),by simp,f3.kept hg (by simp),fun h=>h4 ((hX fb).1 h),fun b hb=>by have:=c1 b ((hX b).1 hb);simp;omega,fun g g3 h=>?_⟩
  ·have:=World.ownsRow_lit (base:=W.heap.size) (e:=62) (size:=1) W #[.iface rt ru] 1 (Nat.le_refl _) (by unfold maxLen;omega) (by simp);simpa [dN,d4.out] using this
  ·simp [Value.ownBlock] at g3;subst g3;have:=c1 _ ((hX _).1 h);omega
 case round=>
  obtain ⟨ws,J,X,hk,d8,S,c3,c4,d1,d9,d5,b6,b9,d3⟩:=hrel;have h5:Hid (I J wr):=c3;have g6:Hid (R wr):=c4;have HI:=hI;have HR:=hR;have HY:=hY;rcases List.eq_nil_or_concat ws with c5 | ⟨y,x,c5⟩
  ·subst c5;obtain ⟨va,j9,hv,_,_⟩:=aU X;have HD:Hid (aN J=jX fl G.1.2):=(by unfold Hid;rw [<- S.out];simp [aN,lK]);subst hv;clear X S hI hR hY c3 c4 hk d3 b9 c1 h4 b6
   gi_wp2
   go_end0
   exact ⟨⟨_,rfl⟩,.inl ⟨J,HD.out,h5.out,g6.out⟩⟩
  ·rw [List.concat_eq_append] at c5;subst c5;rcases X.2 with ⟨_,hz⟩ | ⟨g,cap,k5,hv,k3,hg,i8,i6,j0,i3⟩
   ·simp at hz
   ·subst hv;have b2:¬ Xt tb wr g:=d3 g rfl;have g0:=World.ownsRow.cellAt X y.length (by simp);have c6:(dN (y++[x]))[y.length]?=some x.1.1:=(by simp [dN]);rw [c6] at g0;obtain ⟨t,v,ks,i7,c2,Y,rv,g9⟩:=aLC n₀ w0 fl x
    have d2:J.length<N:=by
     have h1:=congrArg List.length S.out;have h2:(aN (y++[x])).reverse=x.1.2::(aN y).reverse:=(by simp [aN]);rw [h2,tN] at h1;simp [aN] at h1;omega
    have f6:=hY J x wr c3 c4 d2;have f9:(y++[x]).length=y.length+1:=by simp
    have a4:y.length<=1048576:=by
     have h1:=zU (aN (y++[x])).reverse;simp [aN] at h1;simp [aN] at hk;omega
    unfold maxLen at i6;have f4:=X;have b3:Hid (wr.ownsRow W.heap.size 62 1 (.slice (some ⟨g,0,none⟩) (y++[x]).length cap) (y++[x]).length (dN (y++[x]))):=X;rw [i7] at g0 f6;rw [f9] at i8 ⊢;obtain ⟨fn,tmps,assign,body,hy,j2⟩:=f6;have g1:Hid (szs (aN (y++[x])).reverse<=140000):=(by unfold Hid;rw [<- hk];exact d8);have f7:Hid (gk=szs (aN (y++[x])).reverse):=hk;clear X f4 hg j0 i3 hI hR hY c3 c4 d3 hk d8 c6
    gi_wp2
    refine j2.mono ?_;rintro e W3 (⟨rfl,hI3,hk3,hR3⟩ | ⟨rfl,hIx3,hRx3⟩)
    ·have b7:=aDR b3.out hk3 (fun g' e=>by cases e;exact b2);have c7:Boxed W3 fb 4 (.bool fl):=hk3.blk fb _ d5 rfl b6;have k7:=c7.cell;have a6:W.heap.size<=W3.heap.size:=Nat.le_trans d9 hk3.bel.size;have c8:=d1.trans hk3.bel;have D:Below n₀ w0 W3.drew:=c8.drew;have a8:=aB8 b7 (m:=y.length) (by simp)
     have O:W3.drew.ownsRow W.heap.size 62 1 (.slice (some ⟨g,0,none⟩) y.length cap) y.length (dN y):=by
      have e1:(dN (y++[x])).take (y.length*1)=dN y:=(by simp [dN]);rw [e1] at a8;exact a8
     have Z:Hid (∀ (C:World) (v':Value),C.ownsRow W.heap.size 62 1 v' (y.length+(dN ks).reverse.length) (dN y++(dN ks).reverse)->W3.grownBy C (some g)->(v'.ownBlock=some g\/∃ g',v'.ownBlock=some g'/\W3.heap.size<=g')->∃ k',k'<gk/\It n₀ tb fb fl w0 W G I R k' v' C):=by
      intro C v' h1 h2 h3;rw [f7.out];exact aJh HR HI hn₀ f3.lt c2 b3.out g1.out S d1 d9 d5 b6 b9 b2 hI3 hR3 hk3 h1 h2 h3
     clear b7 a8 hI3 hR3 hk3 S b9 c1 c8 b3 h5 g6 HI HR HY d5 c7 d1 g1 f7;rcases g9 with ⟨U,E⟩ | ⟨U,E⟩ | ⟨U,E⟩ | ⟨U,E⟩
     ·have c0:=Y;have b5:=U W3.drew D;have b0:=E W.heap.size W3.drew _ y.length (dN y) hn₀ a6 D a4 O;clear Y U E O D a6 a4 b2 c2
      gi_wp2
      gi_region_with (refine ⟨trivial,?_⟩;gi_at_call 208;refine (callsIn_wide.2 b0).mono ?_;rintro e W5 ⟨v5,rfl,o5,M,a5⟩)
      all_goals
       obtain ⟨k',a7,hit⟩:=Z.out W5 v5 o5 ⟨M.os,M.tape,M.output,M.size,M.block⟩ a5;clear o5 M a5 Z
       gi_wp2
       gi_roundg k'
       case measure=>exact a7
       case rel=>exact hit
     ·have c0:=Y;have b5:=U W3.drew D;have b0:=E W.heap.size W3.drew _ y.length (dN y) hn₀ a6 D a4 O;clear Y U E O D a6 a4 b2 c2
      gi_wp2
      gi_region_with (refine ⟨trivial,?_⟩;gi_at_call 209;refine (callsIn_wide.2 b0).mono ?_;rintro e W5 ⟨v5,rfl,o5,M,a5⟩)
      all_goals
       obtain ⟨k',a7,hit⟩:=Z.out W5 v5 o5 ⟨M.os,M.tape,M.output,M.size,M.block⟩ a5;clear o5 M a5 Z
       gi_wp2
       gi_roundg k'
       case measure=>exact a7
       case rel=>exact hit
     ·have c0:=Y;have b5:=U W3.drew D;have b0:=E W.heap.size W3.drew _ y.length (dN y) hn₀ a6 D a4 O;clear Y U E O D a6 a4 b2 c2
      gi_wp2
      gi_region_with (refine ⟨trivial,?_⟩;gi_at_call 210;refine (callsIn_wide.2 b0).mono ?_;rintro e W5 ⟨v5,rfl,o5,M,a5⟩)
      all_goals
       obtain ⟨k',a7,hit⟩:=Z.out W5 v5 o5 ⟨M.os,M.tape,M.output,M.size,M.block⟩ a5;clear o5 M a5 Z
       gi_wp2
       gi_roundg k'
       case measure=>exact a7
       case rel=>exact hit
     ·have c0:=Y;have b5:=U W3.drew D;have b0:=E W.heap.size W3.drew _ y.length (dN y) hn₀ a6 D a4 O;clear Y U E O D a6 a4 b2 c2
      gi_wp2
      gi_region_with (refine ⟨trivial,?_⟩;gi_at_call 211;refine (callsIn_wide.2 b0).mono ?_;rintro e W5 ⟨v5,rfl,o5,M,a5⟩)
      all_goals
       obtain ⟨k',a7,hit⟩:=Z.out W5 v5 o5 ⟨M.os,M.tape,M.output,M.size,M.block⟩ a5;clear o5 M a5 Z
       gi_wp2
       gi_roundg k'
       case measure=>exact a7
       case rel=>exact hit
    ·clear g9 Y
     have g2:Hid (aN (J++[x]) <+: jX fl G.1.2):=by
      unfold Hid;rw [<- S.out,show (aN (y++[x])).reverse=x.1.2::(aN y).reverse by simp [aN],tN];exact ⟨lK fl (vW fl x.1.2++(aN y).reverse),by simp [aN]⟩
     clear S
     gi_wp2
     refine bodyPost_ret (results_none rfl _ _ _) rfl ?_;exact ⟨⟨_,rfl⟩,.inr ⟨_,g2.out,hIx3,hRx3⟩⟩
end Go.Proofs.YtmfehflibkokbaaGreatDoor
