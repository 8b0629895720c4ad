import Derived.Test.YtckcaefnokeodaaGreatDoorMBL
set_option maxHeartbeats 16000000
set_option maxRecDepth 100000
namespace Go.Proofs.YtckcaefnokeodaaGreatDoor
open Go.Proofs.Tryz Go.RowKit List World
section
attribute [-go_sem] Builtin.append_
theorem KD.app1B {F v M i Gq A w w1} (h:KD F v M Gq w i A w1) {k} {a:Option Addr} {n c:Nat} {I} (O:Ful A k (a,n,c) I) (B:Nat) (hB:w.heap.size<=B) (a3:B<=w1.heap.size) (H:Lo B (a,n,c)) (e:El) (E:Array Value) (ha:E=e.en.toArray) (hk:e.kd=k) (hb:n<=100000) :
  ∃ g m G,(Builtin.append_ #[k.sl,k.sl] k.sl #[.slice a n c,.slice (some ⟨w1.heap.size,0,none⟩) 1 1]).run prog (w1.alloc (.cells E k.ty))=.ok (.slice (some ⟨g,0,none⟩) (n+1) m) G/\KD F v M Gq w i (dF A g (k,m,I++[e])) G/\Ful (dF A g (k,m,I++[e])) k (some ⟨g,0,none⟩,n+1,m) (I++[e])/\B<=g/\∀ x,x<B->G.heap[x]?=w1.heap[x]?:=by
 have Z:=O.n;subst Z ha;have J:=grownBy_alloc w1 (.cells e.en.toArray k.ty) none
 obtain ⟨g,m,G,N,h2,D,h4,Y,h6⟩:=(h.K J).apps O (H.mono hB) w1.heap.size 0 1 [e] (by simp) (fun y S=>by simp at S;rw [S];exact hk) (fun j u hj=>by
  rw [Nat.zero_add,cell_of_row _ w1.heap.size j _ _ _ (heap_alloc_new w1 _)];simpa [ens] using hj) (by simp;omega)
 rw [length_append] at N
 have hg:B<=g:=by
  rcases D with D | ⟨_,D⟩
  .rw [D];simp;omega
  .exact H ⟨g,0,none⟩ (by rw [D])
 exact ⟨g,m,G,N,h2,.inr ⟨g,m,by simp,dX _ _ _,Y⟩,hg,fun x hx=>by rw [h6.block x (by simp;omega) (by simp;omega)];exact J.block x (by omega) (by simp)⟩
def p1:Nod:={ eD with k:=5,C:=1 }
theorem aJa (n:Nat) (E:1<=n):tL n=(replicate n p1).set (n - 1) { eD with k:=5,C:=0 }:=by
 apply ext_getElem
 .simp [tL]
 .intro i h D;simp only [tL,getElem_map,getElem_range,getElem_set,getElem_replicate];have A:i<n:=by simpa [tL] using h
  by_cases e:i+1=n
  .rw [if_pos e,if_pos (by omega)]
  .rw [if_neg e,if_neg (by omega)];rfl
theorem aIi {α:Type} {P:El->α->Prop} {e:El} {c:α} (h:P e c):∀ n,Js P (replicate n e) (replicate n c)
 | 0=>trivial
 | n+1=>⟨h,aIi h n⟩
theorem aMa {F v zs} (n:Nat) (h1:10<=n) (h2:n<=300) (i0 Gq w) (hs:KS F v zs i0 Gq w) :
  Calls prog 34 #[.int .i64 (n:Int)] w fun e w'=>Trk F v zs Gq w ((tL n,[]),i0) e w':=by
 have gA:=grownBy_alloc w (Obj.cells #[.slice none 0 0,.slice none 0 0] 26) none;have tR:=Tv.new w (.slice none 0 0) (.slice none 0 0) 26;have tT:=Tv.new (w.alloc (Obj.cells #[.slice none 0 0,.slice none 0 0] 26)) (.slice none 0 0) (.slice none 0 0) 26;have gB:=grownBy_alloc (w.alloc (Obj.cells #[.slice none 0 0,.slice none 0 0] 26)) (Obj.cells #[.slice none 0 0,.slice none 0 0] 26) none;have D:Gq w.heap.size=none:=hs.mt.gone (Nat.le_refl _);have H:Gq (w.heap.size+1)=none:=hs.mt.gone (by omega);have D1:=((KD.refl hs).K gA).K gB;replace tR:=tR.K gB (by simp);simp only [size_alloc] at tT;obtain ⟨W1,Z⟩:∃ W1,W1=(w.alloc (Obj.cells #[.slice none 0 0,.slice none 0 0] 26)).alloc (Obj.cells #[.slice none 0 0,.slice none 0 0] 26):=⟨_,rfl⟩;rw [<- Z] at D1 tR tT;have b4:=aB D1;have b2:=aB tR;have a9:=aB tT;have a3:=aB D;have a4:=aB H;clear D1 hs gA gB tR tT D H
 go_enter func34,ntmps34
 go_wp2;rw [<- Z];clear Z;generalize b3:w.heap.size=R at *;have J:=aB b3;clear b3;have g3:R+1≠R:=by omega
 go_loopw [4] (fun i W=>∃ (j:Nat) (h:Gk) (a:Option Addr) (c:Nat),j<=n/\i=.int .i64 j/\Ful h .nd (a,j,c) (replicate j (.d 5 aL false aL aL aL 1 aL))/\Lo (R+2) (a,j,c)/\Tv W (R+1) (.slice a j c) (.slice none 0 0)/\Tv W R (.slice none 0 0) (.slice none 0 0)/\h (R+1)=none/\h R=none/\KD F v zs Gq w i0 h W) (fun i _=>n - (intOf i).toNat)
 case atStart=>exact ⟨0,Gq,none,0,by omega,rfl,.inl ⟨rfl,rfl⟩,Lo.nil _,a9.out,b2.out,a4.out,a3.out,b4.out⟩
 case round=>
  obtain ⟨j,h,a,c,hj,rfl,hF,hL,hT,hR,H,D,hD⟩:=hrel;have f5:=hT.lt;obtain ⟨t0,t1,g5,g7⟩:=id hT;obtain ⟨r0,r1,f8,g2⟩:=id hR;clear b4 b2 a9 a3 a4
  by_cases g4:j<n
  .have f1:(j:Int)<(n:Int):=(by omega);obtain ⟨g,mc,w9,N,b7,a0,d0,x9⟩:=hD.app1B (k:=.nd) hF (R+2) (by have:=J.out;omega) (by omega) hL (.d 5 aL false aL aL aL 1 aL) #[.int .i64 5,.slice none 0 0,.bool false,.slice none 0 0,.slice none 0 0,.slice none 0 0,.int .i64 1,.slice none 0 0] rfl rfl (by omega);replace N:(Builtin.append_ #[23,23] 23 #[.slice a j c,.slice (some ⟨wr.heap.size,0,none⟩) 1 1]).run prog (wr.alloc (Obj.cells #[.int .i64 5,.slice none 0 0,.bool false,.slice none 0 0,.slice none 0 0,.slice none 0 0,.int .i64 1,.slice none 0 0] 49))=.ok (.slice (some ⟨g,0,none⟩) (j+1) mc) w9:=N;have E:dF h g (.nd,mc,replicate j (.d 5 aL false aL aL aL 1 aL)++[.d 5 aL false aL aL aL 1 aL]) (R+1)=none:=(by rw [bQ (by omega)];exact H);have I:dF h g (.nd,mc,replicate j (.d 5 aL false aL aL aL 1 aL)++[.d 5 aL false aL aL aL 1 aL]) R=none:=(by rw [bQ (by omega)];exact D);have Y:=b7.off E (by have:=J.out;omega) 0 (.slice (some ⟨g,0,none⟩) (j+1) mc);obtain ⟨u0,u1,c8,c5⟩:=hT.block (x9 (R+1) (by omega));have a6:=aB ((hR.block (x9 R (by omega))).block (heap_setCell_other w9 ⟨R+1,0,none⟩ R (.slice (some ⟨g,0,none⟩) (j+1) mc) (by simp)));rw [<- replicate_succ'] at a0 Y E I;have c7:=aB a0;have b6:=aB Y;have b0:=aB E;have a8:=aB I;clear hF hL hT hR H D hD b7 a0 Y E I x9;go_wp2
   go_roundw
   case rel=>exact ⟨j+1,_,_,_,by omega,by go_num,c7.out,fun ad e=>by cases e;exact d0,⟨by simp [go_sem,u0],by simp [go_sem,u1],by simp [go_sem,c8],by simp [go_sem,c5]⟩,a6.out,b0.out,a8.out,b6.out⟩
   case measure=>simp [intOf];omega
  .have d3:j=n:=(by omega);subst d3;rcases id hF with ⟨_,h0⟩ | ⟨b,m,h0,O,d2⟩
   .have:=congrArg List.length h0;simp at this;omega
   simp only [length_replicate,Prod.mk.injEq,true_and] at h0;obtain ⟨rfl,rfl⟩:=h0;have f7:R+2<=b:=hL ⟨b,0,none⟩ rfl;have S:(replicate j (El.d 5 aL false aL aL aL 1 aL))[j - 1]?=some (.d 5 aL false aL aL aL 1 aL):=(by rw [getElem?_replicate,if_pos (by omega)]);have a5:=hD.st.mt.cell O S (f:=6) (by decide);have a1:=hD.set O (by have:=J.out;omega) (q:=j - 1) (f:=6) (y:=.d 5 aL false aL aL aL 1 aL) (y':=.d 5 aL false aL aL aL 0 aL) (u:=.int .i64 0) S (by decide) rfl rfl;simp only [KK.sz] at a5 a1;obtain ⟨c6,g0⟩:=a5;replace c6:wr.cell? ⟨b,(j - 1)*8+6,none⟩=some (.int .i64 1):=c6;have M:dF h b (.nd,c,(replicate j (El.d 5 aL false aL aL aL 1 aL)).set (j - 1) (.d 5 aL false aL aL aL 0 aL)) R=none:=(by rw [bQ (by omega)];exact D);have D8:=(a1.off M (by have:=J.out;omega) 0 (.slice (some ⟨b,0,none⟩) j c)).off M (by have:=J.out;omega) 1 (.slice none 0 0);have d6:=aB D8;have A:∀ {G:Gk},JC (Ful G) aL []:=fun {G}=>⟨[],.inl ⟨rfl,rfl⟩,trivial⟩
   have HJ:Hid (JN (Ful (dF h b (.nd,c,(replicate j (El.d 5 aL false aL aL aL 1 aL)).set (j - 1) (.d 5 aL false aL aL aL 0 aL)))) (some ⟨b,0,none⟩,j,c) (tL j)):=by
    rw [aJa j (by omega)];exact ⟨_,.inr ⟨b,c,by simp,dX _ _ _,d2⟩,(aIi (c:=p1) ⟨⟨rfl,rfl,rfl⟩,A,.inl ⟨rfl,rfl⟩,.inl ⟨rfl,rfl⟩,.inl ⟨rfl,rfl⟩,A⟩ j).set (j - 1) ⟨⟨rfl,rfl,rfl⟩,A,.inl ⟨rfl,rfl⟩,.inl ⟨rfl,rfl⟩,.inl ⟨rfl,rfl⟩,A⟩⟩
   have g8:((j:Int) - 1).toNat=j - 1:=(by omega);have f3:b≠R:=(by omega);have g1:b≠R+1:=(by omega);clear hF hL hT hR H D hD a1 D8 O S M A;go_wp2;refine bodyPost_ret (v:=.agg #[.slice (some ⟨b,0,none⟩) j c,.slice none 0 0]) (by simp [results,Tryz.results34,go_sem,r0,r1]) rfl ?_;exact ⟨_,_,_,_,_,_,rfl,_,HJ.out,⟨[],.inl ⟨rfl,rfl⟩,trivial⟩,d6.out⟩
end
def setN (l:Array Bool):Nat->Array Bool
 | 0=>l
 | k+1=>(setN l k).setIfInBounds k true
theorem aNp {P} {D:Array Oper} {Q:Exit->Act->World->Prop} {I:World->Prop} {ex:Nat->Bool} {G J N S o4 o5 o6 o7 o8:Oper} (H M O v3 v4 v5 v6 v7 v8) {A l a} {w:World} (Y:I w) (i0:D[0]?=some G) (i1:D[1]?=some J) (i2:D[2]?=some N) (i3:D[3]?=some S) (i4:D[4]?=some o4) (i5:D[5]?=some o5) (i6:D[6]?=some o6) (i7:D[7]?=some o7) (i8:D[8]?=some o8) (y0:vC P D I G H a) (y1:vC P D I J M (a.put G.dst H)) (y2:vC P D I N O ((a.put G.dst H).put J.dst M)) (y3:vC P D I S v3 (((a.put G.dst H).put J.dst M).put N.dst O)) (y4:vC P D I o4 v4 ((((a.put G.dst H).put J.dst M).put N.dst O).put S.dst v3)) (y5:vC P D I o5 v5 (((((a.put G.dst H).put J.dst M).put N.dst O).put S.dst v3).put o4.dst v4)) (y6:vC P D I o6 v6 ((((((a.put G.dst H).put J.dst M).put N.dst O).put S.dst v3).put o4.dst v4).put o5.dst v5)) (y7:vC P D I o7 v7 (((((((a.put G.dst H).put J.dst M).put N.dst O).put S.dst v3).put o4.dst v4).put o5.dst v5).put o6.dst v6)) (y8:vC P D I o8 v8 ((((((((a.put G.dst H).put J.dst M).put N.dst O).put S.dst v3).put o4.dst v4).put o5.dst v5).put o6.dst v6).put o7.dst v7)) (h:fK P .any D Q I ex A (setN l 9) (((((((((a.put G.dst H).put J.dst M).put N.dst O).put S.dst v3).put o4.dst v4).put o5.dst v5).put o6.dst v6).put o7.dst v7).put o8.dst v8) w) (Z:Region.noSelect D=true:=by kernel_rfl) (E:(range 9).all (fun k=>Region.free .any D (setN l k) k&&(Region.ready .any D (setN l k)).contains k&&aHO .any D ex k)=true:=by kernel_rfl) (q0:∀ c a w,Q (.panic c) (a.put G.dst H) w->Q (.panic c) a w:=by exact fun _ _ _ h=>h) (q1:∀ c a w,Q (.panic c) (a.put J.dst M) w->Q (.panic c) a w:=by exact fun _ _ _ h=>h) (q2:∀ c a w,Q (.panic c) (a.put N.dst O) w->Q (.panic c) a w:=by exact fun _ _ _ h=>h) (q3:∀ c a w,Q (.panic c) (a.put S.dst v3) w->Q (.panic c) a w:=by exact fun _ _ _ h=>h) (q4:∀ c a w,Q (.panic c) (a.put o4.dst v4) w->Q (.panic c) a w:=by exact fun _ _ _ h=>h) (q5:∀ c a w,Q (.panic c) (a.put o5.dst v5) w->Q (.panic c) a w:=by exact fun _ _ _ h=>h) (q6:∀ c a w,Q (.panic c) (a.put o6.dst v6) w->Q (.panic c) a w:=by exact fun _ _ _ h=>h) (q7:∀ c a w,Q (.panic c) (a.put o7.dst v7) w->Q (.panic c) a w:=by exact fun _ _ _ h=>h) (q8:∀ c a w,Q (.panic c) (a.put o8.dst v8) w->Q (.panic c) a w:=by exact fun _ _ _ h=>h)
  : fK P .any D Q I ex (A+9) l a w:=by
 simp only [all_eq_true,mem_range,Bool.and_eq_true] at E;refine hZ (fuel:=A+8) H i0 Z (E 0 (by omega)).1.1 (E 0 (by omega)).1.2 (E 0 (by omega)).2 q0 Y y0 ?_;refine hZ (fuel:=A+7) M i1 Z (E 1 (by omega)).1.1 (E 1 (by omega)).1.2 (E 1 (by omega)).2 q1 Y y1 ?_;refine hZ (fuel:=A+6) O i2 Z (E 2 (by omega)).1.1 (E 2 (by omega)).1.2 (E 2 (by omega)).2 q2 Y y2 ?_;refine hZ (fuel:=A+5) v3 i3 Z (E 3 (by omega)).1.1 (E 3 (by omega)).1.2 (E 3 (by omega)).2 q3 Y y3 ?_;refine hZ (fuel:=A+4) v4 i4 Z (E 4 (by omega)).1.1 (E 4 (by omega)).1.2 (E 4 (by omega)).2 q4 Y y4 ?_;refine hZ (fuel:=A+3) v5 i5 Z (E 5 (by omega)).1.1 (E 5 (by omega)).1.2 (E 5 (by omega)).2 q5 Y y5 ?_;refine hZ (fuel:=A+2) v6 i6 Z (E 6 (by omega)).1.1 (E 6 (by omega)).1.2 (E 6 (by omega)).2 q6 Y y6 ?_;refine hZ (fuel:=A+1) v7 i7 Z (E 7 (by omega)).1.1 (E 7 (by omega)).1.2 (E 7 (by omega)).2 q7 Y y7 ?_;refine hZ (fuel:=A+0) v8 i8 Z (E 8 (by omega)).1.1 (E 8 (by omega)).1.2 (E 8 (by omega)).2 q8 Y y8 ?_;exact h
theorem aFb (h:Array Obj) (x) (f:Obj->Obj):(h.push x).modify h.size f=h.push (f x):=by
 apply Array.ext
 .simp
 .intro i A D;simp only [Array.getElem_modify,Array.getElem_push]
  split<;>split<;>first | rfl | omega | (simp at A;omega)
theorem aF8 (w:World) (A:Array Value):(w.alloc (.cells A 5)).freeze ⟨w.heap.size,A.size,none⟩ 1=w.alloc (.cells A 5 (A.size,A.size+1)):=by
 unfold World.freeze;rw [if_neg (by omega)];have h:(w.alloc (.cells A 5)).heap=w.heap.push (.cells A 5):=rfl;rw [h,aFb];rfl
theorem wK (w:World) (h:Array Value) (n c:Nat):(convert 22 22 (.slice (some ⟨w.heap.size,0,none⟩) n c)).run prog (w.alloc (.cells h 5))=.ok (.slice (some ⟨w.heap.size,0,none⟩) n c) (w.alloc (.cells h 5 (h.size,h.size+1))):=by
 have A:(w.alloc (.cells h 5)).shape? w.heap.size=some (5,h.size):=(by unfold shape?;rw [heap_alloc_new]);simp [convert,run_underlying underlying22,run_underlying underlying5,markStringish,A,aF8]
def Tsp (F:Nat) (Gq0:Gk) (w:World) (r:List Nod × List Cm) (e:Ending) (w':World):Prop:=∃ na nn nc ta tn tc,e=.returned (.agg #[.slice na nn nc,.slice ta tn tc])/\∃ Gq',JN (Pre Gq') (na,nn,nc) r.1/\JC (Pre Gq') (ta,tn,tc) r.2/\MT (F+1) Gq' w'/\Below F w w'/\F+1<=w'.heap.size/\∀ x,F<x->x<w.heap.size->Gq0 x=none->w'.heap[x]?=w.heap[x]?/\Gq' x=none
theorem Tsp.drew {F:Nat} {Gq0:Gk} {w D:World} {r:List Nod × List Cm} {e:Ending} (h:Tsp F Gq0 w r e D):Tsp F Gq0 w r e D.drew:=by
 obtain ⟨G,O,nc,E,Y,Z,N,A,J,S,H,I,M⟩:=h;exact ⟨G,O,nc,E,Y,Z,N,A,J,S,H,I.drew,M⟩
structure Sk (F:Nat) (w0:World) (Gq0:Gk) (T R:Nat) (Gq:Gk) (W:World):Prop where
 mt:MT (F+1) Gq W
 bl:Below F w0 W
 tn:Gq T=none
 rn:Gq R=none
 lt:F+1<=W.heap.size
 hT:F<T
 hR:F<R
 ne:T≠R
 oT:w0.heap.size<=T
 oR:w0.heap.size<=R
 un:∀ x,F<x->x<w0.heap.size->Gq0 x=none->W.heap[x]?=w0.heap[x]?/\Gq x=none
theorem MT.off {H:Nat} {Gq:Gk} {w:World} (h:MT H Gq w) {b:Nat} (N:Gq b=none) (j:Nat) (u:Value):MT H Gq (w.setCell ⟨b,j,none⟩ u):=fun c k m E A=>by
 obtain ⟨I,D,J,G,M⟩:=h c k m E A;exact ⟨I,D,J,by rw [heap_setCell_other w ⟨b,j,none⟩ c u (fun e=>by rw [e,N] at A;cases A)];exact G,M⟩
theorem rleP {Gq:Gk} {g:Nat} {x:Nat × List El} (G:∀ k y,Gq g=some (k,y)->k=.nd):Rle (Pre Gq) (Pre (dF Gq g (.nd,x))):=by
 have:∀ (k:KK),k≠KK.nd->∀ v A,Pre Gq k v A->Pre (dF Gq g (.nd,x)) k v A:=fun k E v A h=>by
  rcases h with h | ⟨b,m,M,I,D,J,H⟩
  .exact .inl h
  .exact .inr ⟨b,m,M,I,by rw [bQ (fun e=>by subst e;exact E (G _ _ D))];exact D,J,H⟩
 exact ⟨fun v A h=>this .bs (by simp) v A h,fun v A h=>this .is (by simp) v A h,fun v A h=>this .cm (by simp) v A h⟩
section
variable {F:Nat} {w0 W:World} {T R:Nat} {Gq Gq0:Gk}
theorem Sk.drew (h:Sk F w0 Gq0 T R Gq W):Sk F w0 Gq0 T R Gq W.drew:=⟨h.mt,h.bl.drew,h.tn,h.rn,h.lt,h.hT,h.hR,h.ne,h.oT,h.oR,h.un⟩
theorem Sk.off (h:Sk F w0 Gq0 T R Gq W) (j:Nat) (u:Value):Sk F w0 Gq0 T R Gq (W.setCell ⟨T,j,none⟩ u):=⟨h.mt.off h.tn j u,h.bl.setCell (p:=⟨T,j,none⟩) (Nat.le_of_lt h.hT) u,h.tn,h.rn,by simpa using h.lt,h.hT,h.hR,h.ne,h.oT,h.oR,fun x a b c=>⟨by rw [heap_setCell_other W ⟨T,j,none⟩ x u (by have:=h.oT;simp only;omega)];exact (h.un x a b c).1,(h.un x a b c).2⟩⟩
theorem Sk.fin (h:Sk F w0 Gq0 T R Gq W) {a A:Option Addr} {n c E D:Nat} {H:List Nod} {G:List Cm} (I:JN (Pre Gq) (a,n,c) H) (J:JC (Pre Gq) (A,E,D) G) :
  Hid (Tsp F Gq0 w0 (H,G) (.returned (.agg #[.slice a n c,.slice A E D])) ((W.setCell ⟨R,0,none⟩ (.slice a n c)).setCell ⟨R,1,none⟩ (.slice A E D))):=
 ⟨a,n,c,A,E,D,rfl,Gq,I,J,(h.mt.off h.rn 0 _).off h.rn 1 _,(h.bl.setCell (p:=⟨R,0,none⟩) (Nat.le_of_lt h.hR) _).setCell (p:=⟨R,1,none⟩) (Nat.le_of_lt h.hR) _,by simpa using h.lt,fun x a b c=>⟨by rw [heap_setCell_other _ ⟨R,1,none⟩ x _ (by have:=h.oR;simp only;omega),heap_setCell_other _ ⟨R,0,none⟩ x _ (by have:=h.oR;simp only;omega)];exact (h.un x a b c).1,(h.un x a b c).2⟩⟩
theorem Sk.set (h:Sk F w0 Gq0 T R Gq W) {b m:Nat} {A:List El} (D:Gq b=some (.nd,m,A)) {i f:Nat} {y y':El} {u:Value} (N:A[i]?=some y) (M:f<8) (O:y'.en=y.en.set f u) (J:y'.kd=.nd):Sk F w0 Gq0 T R (dF Gq b (.nd,m,A.set i y')) (W.setCell ⟨b,i*8+f,none⟩ u):=by
 have I:T≠b:=fun e=>by rw [<- e,h.tn] at D;cases D
 have H:R≠b:=fun e=>by rw [<- e,h.rn] at D;cases D
 exact ⟨h.mt.set D N M O J,h.bl.setCell (p:=⟨b,i*8+f,none⟩) (by have:=(h.mt.lt D).1;simp only;omega) u,by rw [bQ I];exact h.tn,by rw [bQ H];exact h.rn,by simpa using h.lt,h.hT,h.hR,h.ne,h.oT,h.oR,fun x a S c=>by
  have G:=h.un x a S c;have E:x≠b:=fun e=>by rw [e,D] at G;cases G.2
  exact ⟨by rw [heap_setCell_other W ⟨b,i*8+f,none⟩ x u E];exact G.1,by rw [bQ E];exact G.2⟩⟩
theorem JN.set {b m:Nat} {h:List El} {D:List Nod} {v:Sv} (J:Gq b=some (.nd,m,h)) (E:v=(some ⟨b,0,none⟩,h.length,m)) (H:m<=maxLen) (I:Js (JD (Pre Gq)) h D) {i:Nat} {y':El} {A:Nod} (G:JD (Pre (dF Gq b (.nd,m,h.set i y'))) y' A):JN (Pre (dF Gq b (.nd,m,h.set i y'))) v (D.set i A):=
 ⟨h.set i y',.inr ⟨b,m,_,by rw [E,length_set],dX _ _ _,prefix_refl _,H⟩,(I.mono (fun e c=>JD.mono (rleP (fun k y e=>by rw [J] at e;cases e;rfl)))).set i G⟩
theorem JC.nd {b m:Nat} {A els':List El} {v:Sv} {D:List Cm} (h:JC (Pre Gq) v D) (E:Gq b=some (.nd,m,A)):JC (Pre (dF Gq b (.nd,m,els'))) v D:=JC.rle (rleP (fun k y e=>by rw [E] at e;cases e;rfl)) h
theorem Sk.app (h:Sk F w0 Gq0 T R Gq W) {k:KK} {a:Option Addr} {b c:Nat} {A:List El} (hV:Ful Gq k (a,b,c) A) (hb:b<=100000) (J:El) (a1:J.kd=k) (Y:Array Value) (ha:Y=J.en.toArray) :
  ∃ g m G,(Builtin.append_ #[k.sl,k.sl] k.sl #[.slice a b c,.slice (some ⟨W.heap.size,0,none⟩) 1 1]).run prog (W.alloc (.cells Y k.ty))=.ok (.slice (some ⟨g,0,none⟩) (b+1) m) G/\(∀ k' v ys,Pre Gq k' v ys->Pre (dF Gq g (k,m,A++[J])) k' v ys)/\Pre (dF Gq g (k,m,A++[J])) k (some ⟨g,0,none⟩,b+1,m) (A++[J])/\(∀ x,x<W.heap.size->(∀ y,Gq x≠some (k,y))->G.heap[x]?=W.heap[x]?/\dF Gq g (k,m,A++[J]) x=Gq x)/\(T<W.heap.size->R<W.heap.size->Sk F w0 Gq0 T R (dF Gq g (k,m,A++[J])) G):=by
 have Z:=hV.n;subst Z ha;have D:=grownBy_alloc W (.cells J.en.toArray k.ty) none;have S:=h.mt.grown D (fun x e=>by cases e)
 obtain ⟨g,m,G,h1,h2,H,h4,h5,M⟩:=S.app (Nat.le_trans h.lt D.size) hV W.heap.size 0 1 [J] (by simp) (fun y N=>by simp at N;rw [N];exact a1) (fun j u hj=>by
  rw [Nat.zero_add,cell_of_row _ W.heap.size j _ _ _ (heap_alloc_new W _)];simpa [ens] using hj) (by simp;omega)
 rw [length_append] at h1
 have a3:Gq g=none\/Gq g=some (k,m,A):=by
  rcases H with H | H
  .rw [H];exact .inl (S.gone (Nat.le_refl _))
  .exact .inr H.1
 have E:∀ x,x<W.heap.size->(∀ y,Gq x≠some (k,y))->x≠g:=fun x I N e=>by
  rcases H with H | H
  .rw [H] at e;simp at e;omega
  .rw [e] at N;exact N _ H.1
 refine ⟨g,m,G,h1,fun k' v ys hp=>hp.longer a3,.inr ⟨g,m,_,by simp,dX _ _ _,prefix_refl _,h5⟩,fun x I N=>⟨?_,bQ (E x I N)⟩,fun hT hR=>?_⟩
 .rw [M.block x (Nat.lt_of_lt_of_le I D.size) (fun e=>E x I N (Option.some.inj e))];exact D.block x I (by simp)
 .have nT:=E T hT (fun y e=>by rw [h.tn] at e;cases e);have nR:=E R hR (fun y e=>by rw [h.rn] at e;cases e);refine ⟨h2,h.bl.trans ⟨M.os.trans D.os,M.tape.trans D.tape,M.output.trans D.output,Nat.le_trans D.size M.size,fun x I=>?_⟩,by rw [bQ nT];exact h.tn,by rw [bQ nR];exact h.rn,Nat.le_trans h.lt (Nat.le_trans D.size M.size),h.hT,h.hR,h.ne,h.oT,h.oR,fun x a b' c=>?_⟩
  .have:=h.lt;rw [M.block x (by simp;omega) (fun e=>by cases e;omega)];exact D.block x (by omega) (by simp)
  .have I:=h.un x a b' c;have O:x<W.heap.size:=Nat.lt_of_lt_of_le b' h.bl.size;have Z:=E x O (fun y e=>by rw [I.2] at e;cases e);exact ⟨by rw [M.block x (Nat.lt_of_lt_of_le O D.size) (fun e=>Z (Option.some.inj e)),D.block x O (by simp)];exact I.1,by rw [bQ Z];exact I.2⟩
theorem Sk.lit (h:Sk F w0 Gq0 T R Gq W) (Z:T<W.heap.size) (Y:R<W.heap.size) (A:List Int) (O:A.length<=1000) (D:Array Value) (S:D=(A.map (Value.int .u8)).toArray):Sk F w0 Gq0 T R (dF Gq W.heap.size (.bs,A.length,A.map .b)) (W.alloc (.cells D 5 (D.size,D.size+1)))/\Gex Gq (dF Gq W.heap.size (.bs,A.length,A.map .b))/\JB (Pre (dF Gq W.heap.size (.bs,A.length,A.map .b))) (some ⟨W.heap.size,0,none⟩,A.length,A.length) A:=by
 subst S
 have H:ens (A.map El.b)=A.map (Value.int .u8):=by
  clear O
  induction A with
  | nil=>rfl
  | cons z wl ih=>simp only [ens,map_cons,flatMap_cons,El.en] at ih ⊢;rw [ih];rfl
 have E:=h.mt.new h.lt .bs A.length (A.map .b) (A.map (Value.int .u8)).toArray ((A.map (Value.int .u8)).toArray.size,(A.map (Value.int .u8)).toArray.size+1) (by simp [KK.sz]) (.inr rfl) (by simp) (fun y N=>by
  obtain ⟨z,_,rfl⟩:=mem_map.1 N;rfl) (fun j u I=>by rw [H] at I;simpa using I)
 exact ⟨⟨E,h.bl.trans ((Below.refl _ _).alloc (Nat.le_of_succ_le h.lt) _),by rw [bQ (by omega)];exact h.tn,by rw [bQ (by omega)];exact h.rn,by simp;have:=h.lt;omega,h.hT,h.hR,h.ne,h.oT,h.oR,fun x a J c=>by
  have M:=h.un x a J c;have G:x<W.heap.size:=Nat.lt_of_lt_of_le J h.bl.size;exact ⟨by rw [(grownBy_alloc W _ none).block x G (by simp)];exact M.1,by rw [bQ (by omega)];exact M.2⟩⟩,(Gex.refl _).upd (h.mt.gone (Nat.le_refl _)),.inr ⟨W.heap.size,A.length,_,by simp,dX _ _ _,prefix_refl _,by unfold maxLen;omega⟩⟩
end
theorem Gex.pre {Gq A:Gk} (h:Gex Gq A) {k:KK} {v:Sv} {E:List El} (D:Pre Gq k v E):Pre A k v E:=by
 rcases D with D | ⟨b,m,M,H,I,J,G⟩
 .exact .inl D
 .exact .inr ⟨b,m,M,H,h b _ I,J,G⟩
theorem Gex.rleP {Gq A:Gk} (h:Gex Gq A):Rle (Pre Gq) (Pre A):=⟨fun _ _ x=>h.pre x,fun _ _ x=>h.pre x,fun _ _ x=>h.pre x⟩
end Go.Proofs.YtckcaefnokeodaaGreatDoor
