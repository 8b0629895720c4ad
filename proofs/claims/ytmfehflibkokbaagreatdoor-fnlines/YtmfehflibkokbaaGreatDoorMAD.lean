import Derived.Test.YtmfehflibkokbaaGreatDoorMAC
set_option maxHeartbeats 16000000
set_option maxRecDepth 100000
namespace Go.Proofs.YtmfehflibkokbaaGreatDoor
open Go.Proofs.Tryz
open Go.RowKit
theorem WT.tree {L H:Nat} {Γ:Gm} {w:World} (h:WT L H Γ w) {b:Nat} (G:Γ b=some (.tr,1,0)):∃ (a0:Option Addr) (E y:Nat) (a1:Option Addr) (D A:Nat),w.cell? ⟨b,0,none⟩=some (.slice a0 E y)/\w.cell? ⟨b,1,none⟩=some (.slice a1 D A)/\w.frozen? ⟨b,0,none⟩=false/\w.frozen? ⟨b,1,none⟩=false:=by
 obtain ⟨u0,O,J,f0⟩:=h.cell G (j:=0) (by decide);obtain ⟨u1,N,M,f1⟩:=h.cell G (j:=1) (by decide);obtain ⟨a0,E,y,rfl⟩:=HW.form (show HW Γ .nd (L*50) u0 from J);obtain ⟨a1,D,A,rfl⟩:=HW.form (show HW Γ .cm L u1 from M);exact ⟨a0,E,y,a1,D,A,O,N,f0,f1⟩
theorem WT.trees {L H:Nat} {Γ:Gm} {w:World} (h:WT L H Γ w) {b q:Nat} (J:Γ b=some (.ts q,1,0)):∃ (a0:Option Addr) (A:Nat) (a1:Option Addr) (E D:Nat),w.cell? ⟨b,0,none⟩=some (.slice a0 q A)/\w.cell? ⟨b,1,none⟩=some (.slice a1 E D)/\HV Γ .nd (.slice a0 q A) q/\HW Γ .cm L (.slice a1 E D)/\w.frozen? ⟨b,0,none⟩=false/\w.frozen? ⟨b,1,none⟩=false:=by
 obtain ⟨u0,O,M,f0⟩:=h.cell J (j:=0) (show 0<2 by decide);obtain ⟨u1,N,G,f1⟩:=h.cell J (j:=1) (show 1<2 by decide);obtain ⟨a1,E,D,rfl⟩:=HW.form (show HW Γ .cm L u1 from G);have y:HV Γ .nd u0 q:=M;obtain ⟨a0,A,rfl,_⟩:=y.sl;exact ⟨a0,A,a1,E,D,O,N,y,G,f0,f1⟩
theorem aFV {L:Nat} {Γ:Gm} {u0 u1:Value} (y:HW Γ .nd (L*50) u0) (h:HW Γ .cm L u1):∀ j,j<(#[u0,u1]:Array Value).size->∃ u,(#[u0,u1]:Array Value)[j]?=some u/\Hc L Γ .tr (j%HK.tr.sz) u:=fun j A=>by
 match j,A with
 | 0,_=>exact ⟨u0,rfl,y⟩
 | 1,_=>exact ⟨u1,rfl,h⟩
theorem aA2 {L:Nat} {Γ:Gm} {u0 u1:Value} {n:Nat} (y:HV Γ .nd u0 n) (h:HW Γ .cm L u1):∀ j,j<(#[u0,u1]:Array Value).size->∃ u,(#[u0,u1]:Array Value)[j]?=some u/\Hc L Γ (.ts n) (j%(HK.ts n).sz) u:=fun j A=>by
 match j,A with
 | 0,_=>exact ⟨u0,rfl,y⟩
 | 1,_=>exact ⟨u1,rfl,h⟩
def Tds (F:Nat) (v:Value) (zs:List Int) (Γ:Gm) (w:World) (e:Ending) (w':World):Prop:=∃ nv tv,e=.returned (.agg #[nv,tv])/\∃ Γ' n,HV Γ' .nd nv n/\(1<=n/\n<=3200)/\HW Γ' .cm 64 tv/\Dn F v zs Γ w Γ' w'
structure Wn (F:Nat) (Γ0:Gm) (w0:World) (Γ:Gm) (w:World):Prop where
 wt:WT 65 (F+1) Γ w
 lt:F+1<=w.heap.size
 le:Gle Γ0 Γ
 bl:Below F w0 w
section
variable {F:Nat} {v:Value} {zs:List Int} {Γ Γ' Γ0:Gm} {w w' w0:World}
theorem Dn.wn (h:Dn F v zs Γ0 w0 Γ w):Wn F Γ0 w0 Γ w:=⟨h.st.wt.wider (by omega),h.st.lt,h.le,h.bl⟩
theorem Wn.turn (h:Wn F Γ0 w0 Γ w) (y:WT 65 (F+1) Γ' w') (g:Gle Γ Γ') (b:Below (F+1) w w'):Wn F Γ0 w0 Γ' w':=⟨y,Nat.le_trans h.lt b.size,h.le.trans g,h.bl.trans (b.mono (by omega))⟩
theorem Wn.K (h:Wn F Γ0 w0 Γ w) (g:w.grownBy w' none):Wn F Γ0 w0 Γ w':=
 h.turn (h.wt.grown g (fun x e=>by cases e)) (Gle.refl _) ⟨g.os,g.tape,g.output,g.size,fun k y=>g.block k (by have:=h.lt;omega) (by simp)⟩
theorem Wn.set (h:Wn F Γ0 w0 Γ w) {b:Nat} {k:HK} {m s:Nat} (y:Γ b=some (k,m,s)) (j:Nat) {u:Value} (A:Hc 65 Γ k (j%k.sz) u):Wn F Γ0 w0 Γ (w.setCell ⟨b,j,none⟩ u):=
 h.turn (h.wt.set y j A) (Gle.refl _) ((Below.refl _ _).setCell (p:=⟨b,j,none⟩) (h.wt.lt y).1 u)
theorem Wn.re (h:Wn F Γ0 w0 Γ w) {b q q':Nat} (D:Γ b=some (.ts q,1,0)) (G:Γ0 b=none) {u:Value} (E:HV Γ .nd u q'):Wn F Γ0 w0 (upd Γ b (.ts q',1,0)) (w.setCell ⟨b,0,none⟩ u):=by
 have A:Below (F+1) w (w.setCell ⟨b,0,none⟩ u):=(Below.refl _ _).setCell (p:=⟨b,0,none⟩) (h.wt.lt D).1 u;refine ⟨h.wt.re D E,Nat.le_trans h.lt A.size,fun c k m s y=>?_,h.bl.trans (A.mono (by omega))⟩;obtain ⟨s',J,M⟩:=h.le c k m s y;refine ⟨s',J,?_⟩;unfold upd;rw [if_neg]
 ·exact M
 ·intro e;rw [e,G] at y;cases y
theorem Wn.app {k:HK} {o:Value} {n:Nat} (h:Wn F Γ0 w0 Γ w) (hv:HV Γ k o n) (y:Array Value) (U:y.size=k.sz) (S:∀ j u,y[j]?=some u->Hc 65 Γ k j u) (N:n<=100000) (Z:k.ok=true:=by rfl) :
  ∃ D w' Γ',(Builtin.append_ #[k.sl,k.sl] k.sl #[o,.slice (some ⟨w.heap.size,0,none⟩) 1 1]).run prog (w.alloc (.cells y k.ty))=.ok D w'/\HV Γ' k D (n+1)/\Gle Γ Γ'/\Wn F Γ0 w0 Γ' w'/\∀ x,x<w.heap.size->(∀ m s,Γ x≠some (k,m,s))->w'.heap[x]?=w.heap[x]?:=by
 have g:=World.grownBy_alloc w (.cells y k.ty) none;have J:=Z;have G:=h.K g
 obtain ⟨D,w',Γ',Y,e2,M,O,e5,X⟩:=G.wt.appK G.lt hv w.heap.size 0 1 1 (by omega) y.toList (by simp [U])
  (fun j u A=>by
   rw [Nat.zero_add,cell_of_row _ w.heap.size j _ _ _ (heap_alloc_new w _)]
   rwa [Array.getElem?_toList] at A)
  (fun j u A=>by
   have E:j<k.sz:=(by have:=(List.getElem?_eq_some_iff.1 A).1;simp at this;omega);rw [Nat.mod_eq_of_lt E];rw [Array.getElem?_toList] at A;exact S j u A) (by omega) J
 refine ⟨D,w',Γ',Y,e2,M,G.turn O M e5,fun x hx N=>?_⟩;rw [X x (by simp;omega) N];exact g.block x hx (by simp)
end
theorem aDV (h:Array Obj) (x:Obj) (f:Obj->Obj):(h.push x).modify h.size f=h.push (f x):=by
 apply Array.ext
 ·simp
 ·intro i y A;simp only [Array.getElem_modify,Array.getElem_push]
  split<;>split<;>first | rfl | omega | (simp at y;omega)
theorem aEs (w:World) (y:Array Value):(w.alloc (.cells y 5)).freeze ⟨w.heap.size,y.size,none⟩ 1=w.alloc (.cells y 5 (y.size,y.size+1)):=by
 unfold World.freeze;rw [if_neg (by omega)];have h:(w.alloc (.cells y 5)).heap=w.heap.push (.cells y 5):=rfl;rw [h,aDV];rfl
theorem uJ (w:World) (h:Array Value) (n c:Nat):(convert 22 22 (.slice (some ⟨w.heap.size,0,none⟩) n c)).run prog (w.alloc (.cells h 5))=.ok (.slice (some ⟨w.heap.size,0,none⟩) n c) (w.alloc (.cells h 5 (h.size,h.size+1))):=by
 have y:(w.alloc (.cells h 5)).shape? w.heap.size=some (5,h.size):=(by unfold World.shape?;rw [heap_alloc_new]);simp [convert,run_underlying underlying22,run_underlying underlying5,markStringish,y,aEs]
def setN (l:Array Bool):Nat->Array Bool
 | 0=>l
 | k+1=>(setN l k).setIfInBounds k true
theorem xD {P:Program} {ops:Array Oper} {Q:Exit->Act->World->Prop} {I:World->Prop} {ex:Nat->Bool} {D E J N X Z o6 o7 o8:Oper} (A G M S Y v5 v6 v7 v8:Value) {fuel:Nat} {l:Array Bool} {a:Act} {w:World} (U:I w)
  (i0:ops[0]?=some D)
  (i1:ops[1]?=some E)
  (i2:ops[2]?=some J)
  (i3:ops[3]?=some N)
  (i4:ops[4]?=some X)
  (i5:ops[5]?=some Z)
  (i6:ops[6]?=some o6)
  (i7:ops[7]?=some o7)
  (i8:ops[8]?=some o8)
  (y0:uY P ops I D A a)
  (y1:uY P ops I E G (a.put D.dst A))
  (y2:uY P ops I J M ((a.put D.dst A).put E.dst G))
  (y3:uY P ops I N S (((a.put D.dst A).put E.dst G).put J.dst M))
  (y4:uY P ops I X Y ((((a.put D.dst A).put E.dst G).put J.dst M).put N.dst S))
  (y5:uY P ops I Z v5 (((((a.put D.dst A).put E.dst G).put J.dst M).put N.dst S).put X.dst Y))
  (y6:uY P ops I o6 v6 ((((((a.put D.dst A).put E.dst G).put J.dst M).put N.dst S).put X.dst Y).put Z.dst v5))
  (y7:uY P ops I o7 v7 (((((((a.put D.dst A).put E.dst G).put J.dst M).put N.dst S).put X.dst Y).put Z.dst v5).put o6.dst v6))
  (y8:uY P ops I o8 v8 ((((((((a.put D.dst A).put E.dst G).put J.dst M).put N.dst S).put X.dst Y).put Z.dst v5).put o6.dst v6).put o7.dst v7))
  (h:fJ P .any ops Q I ex fuel (setN l 9) (((((((((a.put D.dst A).put E.dst G).put J.dst M).put N.dst S).put X.dst Y).put Z.dst v5).put o6.dst v6).put o7.dst v7).put o8.dst v8) w) (O:Region.noSelect ops=true:=by kernel_rfl)
  (y:(List.range 9).all (fun k=>Region.free .any ops (setN l k) k&&(Region.ready .any ops (setN l k)).contains k&&aGk .any ops ex k)=true:=by kernel_rfl)
  (q0:∀ c a w,Q (.panic c) (a.put D.dst A) w->Q (.panic c) a w:=by exact fun _ _ _ h=>h)
  (q1:∀ c a w,Q (.panic c) (a.put E.dst G) w->Q (.panic c) a w:=by exact fun _ _ _ h=>h)
  (q2:∀ c a w,Q (.panic c) (a.put J.dst M) w->Q (.panic c) a w:=by exact fun _ _ _ h=>h)
  (q3:∀ c a w,Q (.panic c) (a.put N.dst S) w->Q (.panic c) a w:=by exact fun _ _ _ h=>h)
  (q4:∀ c a w,Q (.panic c) (a.put X.dst Y) w->Q (.panic c) a w:=by exact fun _ _ _ h=>h)
  (q5:∀ c a w,Q (.panic c) (a.put Z.dst v5) w->Q (.panic c) a w:=by exact fun _ _ _ h=>h)
  (q6:∀ c a w,Q (.panic c) (a.put o6.dst v6) w->Q (.panic c) a w:=by exact fun _ _ _ h=>h)
  (q7:∀ c a w,Q (.panic c) (a.put o7.dst v7) w->Q (.panic c) a w:=by exact fun _ _ _ h=>h)
  (q8:∀ c a w,Q (.panic c) (a.put o8.dst v8) w->Q (.panic c) a w:=by exact fun _ _ _ h=>h)
  : fJ P .any ops Q I ex (fuel+9) l a w:=by
 simp only [List.all_eq_true,List.mem_range,Bool.and_eq_true] at y;refine fY (fuel:=fuel+8) A i0 O (y 0 (by omega)).1.1 (y 0 (by omega)).1.2 (y 0 (by omega)).2 q0 U y0 ?_;refine fY (fuel:=fuel+7) G i1 O (y 1 (by omega)).1.1 (y 1 (by omega)).1.2 (y 1 (by omega)).2 q1 U y1 ?_;refine fY (fuel:=fuel+6) M i2 O (y 2 (by omega)).1.1 (y 2 (by omega)).1.2 (y 2 (by omega)).2 q2 U y2 ?_;refine fY (fuel:=fuel+5) S i3 O (y 3 (by omega)).1.1 (y 3 (by omega)).1.2 (y 3 (by omega)).2 q3 U y3 ?_;refine fY (fuel:=fuel+4) Y i4 O (y 4 (by omega)).1.1 (y 4 (by omega)).1.2 (y 4 (by omega)).2 q4 U y4 ?_;refine fY (fuel:=fuel+3) v5 i5 O (y 5 (by omega)).1.1 (y 5 (by omega)).1.2 (y 5 (by omega)).2 q5 U y5 ?_;refine fY (fuel:=fuel+2) v6 i6 O (y 6 (by omega)).1.1 (y 6 (by omega)).1.2 (y 6 (by omega)).2 q6 U y6 ?_;refine fY (fuel:=fuel+1) v7 i7 O (y 7 (by omega)).1.1 (y 7 (by omega)).1.2 (y 7 (by omega)).2 q7 U y7 ?_;refine fY (fuel:=fuel+0) v8 i8 O (y 8 (by omega)).1.1 (y 8 (by omega)).1.2 (y 8 (by omega)).2 q8 U y8 ?_;exact h
def Tdy (F:Nat) (Γ:Gm) (w:World) (e:Ending) (w':World):Prop:=∃ nv tv,e=.returned (.agg #[nv,tv])/\∃ Γ' n,HV Γ' .nd nv n/\n<=3201/\HW Γ' .cm 65 tv/\Wn F Γ w Γ' w'
theorem Wn.drew {F:Nat} {Γ Γ':Gm} {w w':World} (h:Wn F Γ w Γ' w'):Wn F Γ w Γ' w'.drew:=⟨h.wt,h.lt,h.le,h.bl.drew⟩
theorem Tdy.drew {F:Nat} {Γ:Gm} {w w':World} {e:Ending} (h:Tdy F Γ w e w'):Tdy F Γ w e w'.drew:=by
 obtain ⟨nv,tv,rfl,Γ',n,y,D,E,A⟩:=h;exact ⟨nv,tv,rfl,Γ',n,y,D,E,A.drew⟩
def Fin (F:Nat) (Γ0:Gm) (w0:World) (T R n:Nat) (W:World):Prop:=
 ∃ p0 d0 p1 m1 d1 y0 y1,(W.cell? ⟨T,0,none⟩=some (.slice p0 n d0)/\W.cell? ⟨T,1,none⟩=some (.slice p1 m1 d1))/\(W.cell? ⟨R,0,none⟩=some y0/\W.cell? ⟨R,1,none⟩=some y1/\W.frozen? ⟨R,0,none⟩=false/\W.frozen? ⟨R,1,none⟩=false)/\
  Hid (Tdy F Γ0 w0 (.returned (.agg #[.slice p0 n d0,.slice p1 m1 d1])) ((W.setCell ⟨R,0,none⟩ (.slice p0 n d0)).setCell ⟨R,1,none⟩ (.slice p1 m1 d1)))
section
variable {F:Nat} {Γ Γ0:Gm} {w0 W:World} {T R n:Nat}
theorem Wn.fin (h:Wn F Γ0 w0 Γ W) (hT:Γ T=some (.ts n,1,0)) (J:Γ R=some (.tr,1,0)) (U:n<=3201):Fin F Γ0 w0 T R n W:=by
 obtain ⟨M,D,O,N,S,t0,X,A,y,a7,Y⟩:=h.wt.trees hT;obtain ⟨_,_,_,_,_,_,r0,Z,E,G⟩:=h.wt.tree J;have Dz:=(h.set J 0 (u:=.slice M n D) (⟨n,by omega,A⟩:HW Γ .nd (65*50) (.slice M n D))).set J 1 (u:=.slice O N S) y;exact ⟨M,D,O,N,S,_,_,⟨t0,X⟩,⟨r0,Z,E,G⟩,_,_,rfl,Γ,n,A,U,y,Dz⟩
theorem vT {Γ:Gm} {b c:Nat} {x:HK × Nat × Nat} (h:c≠b):upd Γ b x c=Γ c:=by unfold upd;rw [if_neg h]
theorem Wn.longer {E mx sx i f b c:Nat} {X:Nat} {a:Option Addr} {k:HK} (h:Wn F Γ0 w0 Γ W) (hT:Γ T=some (.ts n,1,0)) (hR:Γ R=some (.tr,1,0)) (hn:n<=3201) (Y:Γ E=some (.nd,mx,sx)) (hi:i<mx - sx) (hf:f<8)
  (c0:W.cell? ⟨T,0,none⟩=some (.slice (some ⟨E,0,none⟩) n X)) (ce:W.cell? ⟨E,i*8+f,none⟩=some (.slice a b c)) (hV:HV Γ k (.slice a b c) b) (hb:b<=64) (y:Array Value) (hs:y.size=k.sz) (hc:∀ j u,y[j]?=some u->Hc 65 Γ k j u)
  (hF:∀ Γ' u,HW Γ' k 65 u->Hc 65 Γ' .nd f u) (hk:k.ok=true:=by rfl) (Z:HK.nd≠k:=by simp) :
  ∃ S O A,(Builtin.append_ #[k.sl,k.sl] k.sl #[.slice a b c,.slice (some ⟨W.heap.size,0,none⟩) 1 1]).run prog (W.alloc (.cells y k.ty))=.ok (.slice S (b+1) O) A/\
   ((W.alloc (.cells y k.ty)).cell? ⟨T,0,none⟩=some (.slice (some ⟨E,0,none⟩) n X)/\(W.alloc (.cells y k.ty)).cell? ⟨E,i*8+f,none⟩=some (.slice a b c))/\
   (A.cell? ⟨T,0,none⟩=some (.slice (some ⟨E,0,none⟩) n X)/\A.cell? ⟨E,i*8+f,none⟩=some (.slice a b c))/\A.frozen? ⟨E,i*8+f,none⟩=false/\Fin F Γ0 w0 T R n (A.setCell ⟨E,i*8+f,none⟩ (.slice S (b+1) O)):=by
 have a6:=(h.wt.lt hT).2;have a7:=(h.wt.lt Y).2;obtain ⟨a9,A,Γ10,N,J,D,M,G⟩:=h.app (k:=k) hV y hs hc (by omega) hk;have U:=D.full hT;have a5:=D.full hR;obtain ⟨c7,b4,hΓy⟩:=D _ _ _ _ Y;have cT:=(World.cell?_of_block (G T a6 (fun m s e=>by rw [hT] at e;cases e;cases hk))).trans c0;have cE:=(World.cell?_of_block (G E a7 (fun m s e=>by rw [Y] at e;cases e;exact Z rfl))).trans ce;have ff:=(M.wt.bare hΓy (j:=i*8+f) (by simp only [HK.sz];omega)).2;have Dw:=M.set hΓy (i*8+f) (u:=a9) (by rw [show (i*8+f)%HK.nd.sz=f by simp only [HK.sz];omega];exact hF _ _ ⟨b+1,by omega,J⟩);obtain ⟨S,O,a8,_⟩:=J.sl;subst a8;have gA:=World.grownBy_alloc W (.cells y k.ty) none;exact ⟨S,O,A,N,⟨gA.cell c0 (by simp),gA.cell ce (by simp)⟩,⟨cT,cE⟩,ff,Dw.fin U a5 hn⟩
theorem aDF (y:Bool) (m:Nat) (E:m<=65) (b:Nat) (D:Γ b=some (.bs,m,0)):∀ j u,(#[.bool y,.slice (some ⟨b,0,none⟩) m m]:Array Value)[j]?=some u->Hc 65 Γ .cm j u:=fun j u h=>by
 have A:j<2:=(Array.getElem?_eq_some_iff.1 h).1
 match j,A with
 | 0,_=>cases h;exact ⟨y,rfl⟩
 | 1,_=>cases h;exact (⟨m,E,.inr ⟨_,m,0,rfl,D,by omega,by unfold maxLen;omega⟩⟩:HW _ .bs 65 _)
theorem Wn.newM (h:Wn F Γ0 w0 Γ W) (k:HK) (m:Nat) (y:Array Value) (A:y.size=m*k.sz) (D:∀ j,j<y.size->∃ u,y[j]?=some u/\Hc 65 Γ k (j%k.sz) u):Wn F Γ0 w0 (upd Γ W.heap.size (k,m,0)) (W.alloc (.cells y k.ty (y.size,y.size+1))):=
 h.turn (h.wt.new h.lt k m y _ A (.inr rfl) D) (cQ h.wt _) ((Below.refl _ _).alloc h.lt _)
theorem zP (zs:List Int) (y:∀ z∈zs,0<=z/\z<=255):∀ j,j<(zs.map (fun z=>Value.int .u8 z)).toArray.size->∃ u,(zs.map (fun z=>Value.int .u8 z)).toArray[j]?=some u/\Hc 65 Γ .bs (j%HK.bs.sz) u:=fun j h=>by
 simp at h;exact ⟨.int .u8 zs[j],by simp [h],zs[j],rfl,y _ (List.getElem_mem h)⟩
end
end Go.Proofs.YtmfehflibkokbaaGreatDoor
