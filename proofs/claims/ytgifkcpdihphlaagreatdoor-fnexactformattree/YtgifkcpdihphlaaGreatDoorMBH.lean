import Derived.Test.YtgifkcpdihphlaaGreatDoorMBG
set_option maxHeartbeats 16000000
set_option maxRecDepth 100000
namespace Go.Proofs.YtgifkcpdihphlaaGreatDoor
open Tryz
open Go.RowKit
def lK (room:Int) (st:List (Tr × Int)) (p:Pc):Option (Int × List (Tr × Int)):=
 match st with | (y,ny)::(x,nx)::r=>some (room,(.bin p x y,max nx ny)::r) | _=>none
def eX (room:Int) (st:List (Tr × Int)) (p:Pc):Option (Int × List (Tr × Int)):=
 match st with | (x,nx)::r=>if p.n<0\/4000 - nx<p.n then none else some (room,(.un p x,nx+p.n)::r) | _=>none
theorem aMV (u:List Mk) (h:¬ u.length<2):∃ (r:List Mk) (x y:Mk),u=r++[x]++[y]:=by
 obtain ⟨j,y,A⟩:∃ j y,u=j++[y]:=⟨u.dropLast,u.getLast (by intro e;rw [e] at h;simp at h),(List.dropLast_concat_getLast _).symm⟩;have E:j≠[]:=(by intro e;rw [A,e] at h;simp at h);obtain ⟨r,x,D⟩:∃ r x,j=r++[x]:=⟨j.dropLast,j.getLast E,(List.dropLast_concat_getLast _).symm⟩;exact ⟨r,x,y,by rw [A,D]⟩
theorem aM3 (j:List Mk) (h:¬ j.length<1):∃ (r:List Mk) (x:Mk),j=r++[x]:=
 ⟨j.dropLast,j.getLast (by intro e;rw [e] at h;simp at h),(List.dropLast_concat_getLast _).symm⟩
theorem aDa {B:Nat} {w:World} {y:Nat} {nv u:Value} {A:List Mk} {E:List Value} {j:Int} (h:Bst B w y nv u A E j) (b:Nat) (G:w.heap.size<=b):¬ Xof y nv u b:=by
 intro D;rcases D with e | e | e
 ·have:=h.lt;omega
 ·have:=World.ownsRow.lt h.nrow _ e;omega
 ·have:=World.ownsRow.lt h.row _ e;omega
theorem aKi {B:Nat} {X:Nat->Prop} {w:World} {p:Pc} {u j:Value} {x y:Tr} (L:Rep X B w u x) (J:Rep X B w j y) (G:¬ X w.heap.size) (h t:TypeId) (H:(p.k=6/\h=198)\/(p.k=9/\h=202)) :
  Rep X B (w.alloc (.cells #[u,j] t)) (.iface h (.pointer (some ⟨w.heap.size,0,none⟩))) (.bin p x y):=by
 have E:w.grownBy (w.alloc (.cells #[u,j] t)) none:=gWA;simp only [Rep];refine ⟨w.heap.size,u,j,G,by simp,by simp [go_sem],by simp [go_sem],L.K E,J.K E,?_⟩;rcases H with ⟨A,D⟩ | ⟨A,D⟩
 ·exact .inl ⟨A,by rw [D]⟩
 ·exact .inr ⟨A,by rw [D]⟩
theorem aLc {B:Nat} {X:Nat->Prop} {w:World} {p:Pc} {h:Value} {x:Tr} (y:Rep X B w h x) (j:¬ X w.heap.size) (t:TypeId) (u:p.k=8) :
  Rep X B (w.alloc (.cells #[h] t)) (.iface 195 (.pointer (some ⟨w.heap.size,0,none⟩))) (.un p x):=by
 have A:w.grownBy (w.alloc (.cells #[h] t)) none:=gWA;simp only [Rep];exact ⟨w.heap.size,h,j,by simp,by simp [go_sem],y.K A,.inl ⟨u,rfl⟩⟩
theorem aKS {B:Nat} {X:Nat->Prop} {w:World} {p:Pc} {h nv:Value} {x:Tr} (y:Rep X B w h x) (j:¬ X w.heap.size) (t:TypeId) (u:p.k=7) :
  Rep X B (w.alloc (.cells #[h,nv] t)) (.iface 190 (.pointer (some ⟨w.heap.size,0,none⟩))) (.un p x):=by
 have A:w.grownBy (w.alloc (.cells #[h,nv] t)) none:=gWA;simp only [Rep];exact ⟨w.heap.size,h,j,by simp,by simp [go_sem],y.K A,.inr ⟨u,rfl⟩⟩
theorem aHT {X:Nat->Prop} {B:Nat} {w:World} {p:Pc} {u j:Value} {x y:Tr} {A D:List Value} (J:Rep X B w u x) (G:Rep X B w j y) (L:cV w u x A) (H:cV w j y D) (h t:TypeId) :
  cV (w.alloc (.cells #[u,j] t)) (.iface h (.pointer (some ⟨w.heap.size,0,none⟩))) (.bin p x y) (A++D++[.iface h (.pointer (some ⟨w.heap.size,0,none⟩))]):=by
 have E:w.grownBy (w.alloc (.cells #[u,j] t)) none:=gWA;simp only [cV];exact ⟨h,w.heap.size,u,j,A,D,rfl,by simp [go_sem],by simp [go_sem],L.K J E,H.K G E,rfl⟩
theorem aJg {X:Nat->Prop} {B:Nat} {w:World} {p:Pc} {j:Value} {x:Tr} {u:List Value} (A:Rep X B w j x) (E:cV w j x u) (h t:TypeId) (y:p.k≠7) :
  cV (w.alloc (.cells #[j] t)) (.iface h (.pointer (some ⟨w.heap.size,0,none⟩))) (.un p x) (u++[.iface h (.pointer (some ⟨w.heap.size,0,none⟩))]):=by
 have D:w.grownBy (w.alloc (.cells #[j] t)) none:=gWA;simp only [cV];exact ⟨h,w.heap.size,j,u,rfl,by simp [go_sem],fun e=>absurd e y,E.K A D,rfl⟩
theorem aI3 {X:Nat->Prop} {B:Nat} {w:World} {p:Pc} {j:Value} {x:Tr} {u:List Value} (y:Rep X B w j x) (D:cV w j x u) (h t:TypeId) :
  cV (w.alloc (.cells #[j,.int .i64 p.n] t)) (.iface h (.pointer (some ⟨w.heap.size,0,none⟩))) (.un p x) (u++[.iface h (.pointer (some ⟨w.heap.size,0,none⟩))]):=by
 have A:w.grownBy (w.alloc (.cells #[j,.int .i64 p.n] t)) none:=gWA;simp only [cV];exact ⟨h,w.heap.size,j,u,rfl,by simp [go_sem],fun _=>by simp [go_sem],D.K y A,rfl⟩
theorem uY (B:Nat) (w:World) (H:Nat) (nv rv:Value) (A:List Mk) (h:Int) (p:Pc) (hS:Bst B w H nv rv A (cB A) h) (hk:p.k=6\/p.k=9) (hB:B<=w.heap.size) (hl:A.length<=1048576) (g6:(cB A).length<=1048576) :
  Calls prog 126 #[.pointer (some ⟨H,0,none⟩),.int .i64 p.k] w fun e w'=>fY B w H ((cB A).length+1) (lK h (cF A) p) e w':=by
 have c1:=hS.c1;obtain ⟨ra,c9,b6,i0,g8⟩:=bD hS.row
 by_cases h2:A.length<2
 ·have HF:Hid (lK h (cF A) p=none):=by
   have:=rB A;unfold Hid lK;rcases hst:cF A with _ | ⟨y,_ | ⟨x,r⟩⟩
   ·rfl
   ·rfl
   ·rw [hst] at this;simp at this;omega
  subst b6;clear hS g8
  go_enter func126,ntmps126
  go_wp2;go_ret;exact ⟨Below.refl _ _,by rw [HF.out];rfl⟩
 ·obtain ⟨r,X,Y,L⟩:=aMV A h2;have d1:r.length<=1048576:=by rw [L] at hl;simp at hl;omega
  have HF:Hid (lK h (cF A) p=some (h,(.bin p X.T Y.T,max X.n Y.n)::cF r)):=by
   unfold Hid;rw [L,eP,eP];rfl
  have f9:Hid (cB A=cB r++X.l++Y.l):=(by unfold Hid;rw [L,cZ,cZ,cX,cX]);have G:Bst B w H nv rv (r++[X]++[Y]) (cB A) h:=(by have:=hS;rw [L] at this ⊢;exact this);have hY:=G.rep Y (by simp);have hX:=G.rep X (by simp);obtain ⟨ty,uy,d3⟩:=hY.form;obtain ⟨tx,M,d0⟩:=hX.form;have O:=aDs B w H nv rv (r++[X]) (cB A) h Y G hB (by simp;rw [L] at hl;simp at hl;omega);have HS:Hid (Bst B w H nv rv (r++[X]++[Y]) (cB A) h):=G;have HX:Hid (Rep (Xof H nv rv) B w X.v X.T):=hX;have HY:Hid (Rep (Xof H nv rv) B w Y.v Y.T):=hY;have PX:Hid (cV w X.v X.T X.l):=G.post X (by simp);have PY:Hid (cV w Y.v Y.T Y.l):=G.post Y (by simp);rw [d3] at O;have i6:=b6;subst b6;clear hS G hX hY L
  go_enter func126,ntmps126
  go_wp2_with fail
  refine O.mono ?_;rintro e w1 ⟨rfl,a7,c3,b7⟩;have h9:=b7.bel.size;have b8:w1.grownBy (w1.alloc (.cells #[.iface ty uy,.int .i64 Y.n] 218)) none:=gWA;have d4:Hid (Bst B (w1.alloc (.cells #[.iface ty uy,.int .i64 Y.n] 218)) H nv a7 (r++[X]) (cB A) h):=c3.K b8;have j:Hid (Fr B H nv _ nv a7 w (w1.alloc (.cells #[.iface ty uy,.int .i64 Y.n] 218))):=b7.grown b8 hB;have J:=aDs B _ H nv a7 r (cB A) h X d4.out (by simp;omega) d1;have Z:=aDa c3 w1.heap.size (Nat.le_refl _);rw [d0] at J;clear O c3 b7 b8
  go_wp2_with fail
  refine J.mono ?_;rintro e E ⟨rfl,S,c7,a4⟩;have g5:=a4.bel.size;simp only [World.size_alloc] at g5;have y0:=a4.cell (a:=⟨w1.heap.size,0,none⟩) (v:=.iface ty uy) (by simp [go_sem]) Z;have y1:=a4.cell (a:=⟨w1.heap.size,1,none⟩) (v:=.int .i64 Y.n) (by simp [go_sem]) Z;have a5:E.grownBy (E.alloc (.cells #[.iface tx M,.int .i64 X.n] 218)) none:=gWA;have D:Hid (Fr B H nv a7 nv S _ (E.alloc (.cells #[.iface tx M,.int .i64 X.n] 218))):=a4.grown a5 (by simp;omega);have b0:Hid (Bst B (E.alloc (.cells #[.iface tx M,.int .i64 X.n] 218)) H nv S r (cB A) h):=c7.K a5;have h3:max X.n Y.n=if X.n<Y.n then Y.n else X.n:=(by omega);have z0:=a5.cell y0 (by simp);have z1:=a5.cell y1 (by simp);have h1:w1.heap.size≠E.heap.size:=(by omega);clear J c7 a4 a5 d4 y0 y1;have b3:=aDa b0.out (E.heap.size+1) (by simp);have a8:=D.out.rep (j.out.rep HX.out);have a6:=D.out.rep (j.out.rep HY.out);have b9:=D.out.post (j.out.rep HX.out) (j.out.post HX.out PX.out);have c0:=D.out.post (j.out.rep HY.out) (j.out.post HY.out PY.out);have f6:Hid (Fr B H nv (Value.slice ra A.length c9) nv S w (E.alloc (.cells #[.iface tx M,.int .i64 X.n] 218))):=j.out.trans D.out;have h8:B<=E.heap.size+1:=(by omega);rw [d0] at a8 b9;rw [d3] at a6 c0
  have c8:Hid (∀ (u t:TypeId) (N:Int),((p.k=6/\u=198)\/(p.k=9/\u=202))->max X.n Y.n=N->
    Calls prog 124 #[.pointer (some ⟨H,0,none⟩),.iface u (.pointer (some ⟨E.heap.size+1,0,none⟩)),.int .i64 N] ((E.alloc (.cells #[.iface tx M,.int .i64 X.n] 218)).alloc (.cells #[.iface tx M,.iface ty uy] t))
     fun e w'=>e=.returned (.tuple #[])/\Below B w w'/\∃ nv rv a9,cF a9=(.bin p X.T Y.T,max X.n Y.n)::cF r/\Bst B w' H nv rv a9 (cB a9) h/\(cB a9).length=(cB A).length+1):=by
   intro u t N hk hN;have b2:¬ Xof H nv S (E.alloc (.cells #[.iface tx M,.int .i64 X.n] 218)).heap.size:=(by simpa using b3);have d6:=aKi a8 a6 b2 u t hk;have gA:(E.alloc (.cells #[.iface tx M,.int .i64 X.n] 218)).grownBy ((E.alloc (.cells #[.iface tx M,.int .i64 X.n] 218)).alloc (.cells #[.iface tx M,.iface ty uy] t)) none:=gWA;have c4:=aHT (p:=p) a8 a6 b9 c0 u t;have g4:=b0.out.once.new u (E.alloc (.cells #[.iface tx M,.int .i64 X.n] 218)).heap.size (Nat.le_refl _);have:=kF B _ H nv S r (cB A) h ⟨_,.bin p X.T Y.T,N,_⟩ (b0.out.K gA) d6 c4 (fun t b e=>by cases e;exact ⟨⟨b2,_,_,heap_alloc_new _ _⟩,g4⟩) (by simp;omega) d1 g6;simp only [World.size_alloc] at this;refine this.mono ?_;rintro e w' ⟨rfl,f8,f4,G,g0⟩
   have d2:cB (r++[(⟨.iface u (.pointer (some ⟨E.heap.size+1,0,none⟩)),.bin p X.T Y.T,N,X.l++Y.l++[.iface u (.pointer (some ⟨E.heap.size+1,0,none⟩))]⟩:Mk)])=cB A++[.iface u (.pointer (some ⟨E.heap.size+1,0,none⟩))]:=by
    rw [cZ,cX,f9.out];simp
   exact ⟨rfl,(f6.out.grown gA hB).bel.trans g0.bel,f8,f4,r++[(⟨.iface u (.pointer (some ⟨E.heap.size+1,0,none⟩)),.bin p X.T Y.T,N,X.l++Y.l++[.iface u (.pointer (some ⟨E.heap.size+1,0,none⟩))]⟩:Mk)],by rw [eP,hN],by rw [d2];exact G,by rw [d2];simp⟩
  clear a8 a6 b9 c0 b0 j D HX HY PX PY Z b3;rcases hk with b5 | c2
  ·have e9:(p.k==9)=false:=(by rw [b5];rfl);have HK:Hid (p.k=6):=b5;clear b5
   go_wp2_with fail
   all_goals
    refine (c8.out _ _ _ (.inl ⟨HK.out,rfl⟩) (by omega)).mono ?_;rintro e w4 ⟨rfl,U,h4⟩;go_wp2;go_ret;refine ⟨U,?_⟩;rw [HF.out];exact ⟨rfl,h4⟩
  ·have e9:(p.k==9)=true:=(by rw [c2];rfl);have HK:Hid (p.k=9):=c2;clear c2
   go_wp2_with fail
   all_goals
    refine (c8.out _ _ _ (.inr ⟨HK.out,rfl⟩) (by omega)).mono ?_;rintro e w4 ⟨rfl,U,h4⟩;go_wp2;go_ret;refine ⟨U,?_⟩;rw [HF.out];exact ⟨rfl,h4⟩
theorem rE (B:Nat) (w:World) (L:Nat) (nv rv:Value) (A:List Mk) (h:Int) (p:Pc) (hS:Bst B w L nv rv A (cB A) h) (hk:(p.k=8/\p.n=0)\/p.k=7) (hB:B<=w.heap.size) (hl:A.length<=1048576) (d1:(cB A).length<=1048576) (hg:∀ x∈A,0<=x.n/\x.n<=4000) :
  Calls prog 127 #[.pointer (some ⟨L,0,none⟩),.int .i64 p.k,.int .i64 p.n] w fun e w'=>fY B w L ((cB A).length+1) (eX h (cF A) p) e w':=by
 have c1:=hS.c1;obtain ⟨ra,d3,c8,g5,d9⟩:=bD hS.row
 by_cases h2:A.length<1
 ·have HF:Hid (eX h (cF A) p=none):=by
   have:=rB A;unfold Hid eX;rcases hst:cF A with _ | ⟨y,r⟩
   ·rfl
   ·rw [hst] at this;simp at this;omega
  subst c8;clear hS d9
  go_enter func127,ntmps127
  go_wp2;go_ret;exact ⟨Below.refl _ _,by rw [HF.out];rfl⟩
 ·obtain ⟨r,X,Y⟩:=aM3 A h2;have b6:r.length<=1048576:=(by rw [Y] at hl;simp at hl;omega);obtain ⟨g4,f9⟩:=hg X (by rw [Y];simp)
  have HF:Hid (eX h (cF A) p=if p.n<0\/4000 - X.n<p.n then none else some (h,(.un p X.T,X.n+p.n)::cF r)):=by
   unfold Hid;rw [Y,eP];rfl
  have d2:Hid (cB A=cB r++X.l):=(by unfold Hid;rw [Y,cZ,cX]);have H:Bst B w L nv rv (r++[X]) (cB A) h:=(by have:=hS;rw [Y] at this ⊢;exact this);have hX:=H.rep X (by simp);obtain ⟨tx,u,c6⟩:=hX.form;have J:=aDs B w L nv rv r (cB A) h X H hB b6;have HX:Hid (Rep (Xof L nv rv) B w X.v X.T):=hX;have PX:Hid (cV w X.v X.T X.l):=H.post X (by simp);rw [c6] at J;subst c8;clear hS H hX Y hg
  by_cases M:p.n<0\/4000 - X.n<p.n
  ·have a7:Hid (eX h (cF A) p=none):=(by unfold Hid;rw [HF.out,if_pos M]);clear HF
   by_cases d5:p.n<0
   ·clear M
    go_enter func127,ntmps127
    go_wp2_with fail
    refine J.mono ?_;rintro e j ⟨rfl,G,O,D⟩;have HB:Hid (Below B w (j.alloc (.cells #[.iface tx u,.int .i64 X.n] 218))):=(D.grown gWA hB).bel;clear O D;go_wp2;go_ret;exact ⟨HB.out,by rw [a7.out];rfl⟩
   ·have d8:4000 - X.n<p.n:=(by omega);clear M
    go_enter func127,ntmps127
    go_wp2_with fail
    refine J.mono ?_;rintro e j ⟨rfl,G,O,D⟩;have HB:Hid (Below B w (j.alloc (.cells #[.iface tx u,.int .i64 X.n] 218))):=(D.grown gWA hB).bel;clear O D;go_wp2;go_ret;exact ⟨HB.out,by rw [a7.out];rfl⟩
  ·have d5:¬ p.n<0:=(by omega);have d8:¬ 4000 - X.n<p.n:=(by omega);have a7:Hid (eX h (cF A) p=some (h,(.un p X.T,X.n+p.n)::cF r)):=(by unfold Hid;rw [HF.out,if_neg M]);clear HF M;have HK:=hk;clear hk
   go_enter func127,ntmps127
   go_wp2_with fail
   refine J.mono ?_;rintro e j ⟨rfl,G,O,D⟩;have g3:=D.bel.size;have a9:Hid (Fr B L nv (Value.slice ra A.length d3) nv G w j):=D;have U:Hid (Bst B j L nv G r (cB A) h):=O;have b2:∀ b,j.heap.size<=b->¬ Xof L nv G b:=aDa O;have Z:Hid (∀ b,j.heap.size<=b->¬ Xof L nv G b):=b2;have b9:=D.rep HX.out;have b4:=D.post HX.out PX.out;rw [c6] at b9 b4;have b0:Hid (cV j (.iface tx u) X.T X.l):=b4;have N:Hid (Rep (Xof L nv G) B j (.iface tx u) X.T):=b9;have gA:Hid (j.grownBy ((j.alloc (.cells #[.iface tx u,.int .i64 X.n] 218)).alloc (.cells #[.iface tx u] 192)) none):=aA gWA gWA;clear O D b2 b9 J HX PX b4;rcases HK with ⟨b3,c9⟩ | b8
   ·have e8:(p.k==8)=true:=by rw [b3];rfl
    have c2:Calls prog 124 #[.pointer (some ⟨L,0,none⟩),.iface 195 (.pointer (some ⟨j.heap.size+1+1,0,none⟩)),.int .i64 X.n] (((j.alloc (.cells #[.iface tx u,.int .i64 X.n] 218)).alloc (.cells #[.iface tx u] 192)).alloc (.cells #[.iface tx u] 197))
     fun e w'=>e=.returned (.tuple #[])/\Below B w w'/\∃ nv rv E,cF E=(.un p X.T,X.n+p.n)::cF r/\Bst B w' L nv rv E (cB E) h/\(cB E).length=(cB A).length+1:=by
     have a6:=aLc (t:=197) (p:=p) (N.out.K gA.out) (Z.out _ (by simp;omega)) b3;have gB:((j.alloc (.cells #[.iface tx u,.int .i64 X.n] 218)).alloc (.cells #[.iface tx u] 192)).grownBy (((j.alloc (.cells #[.iface tx u,.int .i64 X.n] 218)).alloc (.cells #[.iface tx u] 192)).alloc (.cells #[.iface tx u] 197)) none:=gWA;have S:=aJg (t:=197) (p:=p) (N.out.K gA.out) (b0.out.K N.out gA.out) 195 (by omega);have c4:=(U.out.K gA.out).once.new 195 ((j.alloc (.cells #[.iface tx u,.int .i64 X.n] 218)).alloc (.cells #[.iface tx u] 192)).heap.size (Nat.le_refl _);have:=kF B _ L nv G r (cB A) h ⟨_,.un p X.T,X.n,_⟩ ((U.out.K gA.out).K gB) a6 S (fun t b e=>by cases e;exact ⟨⟨Z.out _ (by simp;omega),_,_,heap_alloc_new _ _⟩,c4⟩) (by simp;omega) b6 d1;simp only [World.size_alloc] at this;refine this.mono ?_;rintro e w' ⟨rfl,b7,b5,H,c3⟩
     have a5:cB (r++[(⟨.iface 195 (.pointer (some ⟨j.heap.size+1+1,0,none⟩)),.un p X.T,X.n,X.l++[.iface 195 (.pointer (some ⟨j.heap.size+1+1,0,none⟩))]⟩:Mk)])=cB A++[.iface 195 (.pointer (some ⟨j.heap.size+1+1,0,none⟩))]:=by
      rw [cZ,cX,d2.out];simp
     exact ⟨rfl,((a9.out.grown gA.out hB).grown gB hB).bel.trans c3.bel,b7,b5,r++[(⟨.iface 195 (.pointer (some ⟨j.heap.size+1+1,0,none⟩)),.un p X.T,X.n,X.l++[.iface 195 (.pointer (some ⟨j.heap.size+1+1,0,none⟩))]⟩:Mk)],by rw [eP,c9];simp,by rw [a5];exact H,by rw [a5];simp⟩
    clear b3 N b0 U a9 Z c9
    go_wp2_with fail
    refine c2.mono ?_;rintro e w4 ⟨rfl,a8,h4⟩;go_wp2;go_ret;refine ⟨a8,?_⟩;rw [a7.out];exact ⟨rfl,h4⟩
   ·have e8:(p.k==8)=false:=by rw [b8];rfl
    have c2:Calls prog 124 #[.pointer (some ⟨L,0,none⟩),.iface 190 (.pointer (some ⟨j.heap.size+1+1,0,none⟩)),.int .i64 (X.n+p.n)] (((j.alloc (.cells #[.iface tx u,.int .i64 X.n] 218)).alloc (.cells #[.iface tx u] 192)).alloc (.cells #[.iface tx u,.int .i64 p.n] 194))
     fun e w'=>e=.returned (.tuple #[])/\Below B w w'/\∃ nv rv E,cF E=(.un p X.T,X.n+p.n)::cF r/\Bst B w' L nv rv E (cB E) h/\(cB E).length=(cB A).length+1:=by
     have a6:=aKS (t:=194) (p:=p) (nv:=.int .i64 p.n) (N.out.K gA.out) (Z.out _ (by simp;omega)) b8;have gB:((j.alloc (.cells #[.iface tx u,.int .i64 X.n] 218)).alloc (.cells #[.iface tx u] 192)).grownBy (((j.alloc (.cells #[.iface tx u,.int .i64 X.n] 218)).alloc (.cells #[.iface tx u] 192)).alloc (.cells #[.iface tx u,.int .i64 p.n] 194)) none:=gWA;have S:=aI3 (t:=194) (p:=p) (N.out.K gA.out) (b0.out.K N.out gA.out) 190;have c4:=(U.out.K gA.out).once.new 190 ((j.alloc (.cells #[.iface tx u,.int .i64 X.n] 218)).alloc (.cells #[.iface tx u] 192)).heap.size (Nat.le_refl _);have:=kF B _ L nv G r (cB A) h ⟨_,.un p X.T,X.n+p.n,_⟩ ((U.out.K gA.out).K gB) a6 S (fun t b e=>by cases e;exact ⟨⟨Z.out _ (by simp;omega),_,_,heap_alloc_new _ _⟩,c4⟩) (by simp;omega) b6 d1;simp only [World.size_alloc] at this;refine this.mono ?_;rintro e w' ⟨rfl,b7,b5,H,c3⟩
     have a5:cB (r++[(⟨.iface 190 (.pointer (some ⟨j.heap.size+1+1,0,none⟩)),.un p X.T,X.n+p.n,X.l++[.iface 190 (.pointer (some ⟨j.heap.size+1+1,0,none⟩))]⟩:Mk)])=cB A++[.iface 190 (.pointer (some ⟨j.heap.size+1+1,0,none⟩))]:=by
      rw [cZ,cX,d2.out];simp
     exact ⟨rfl,((a9.out.grown gA.out hB).grown gB hB).bel.trans c3.bel,b7,b5,r++[(⟨.iface 190 (.pointer (some ⟨j.heap.size+1+1,0,none⟩)),.un p X.T,X.n+p.n,X.l++[.iface 190 (.pointer (some ⟨j.heap.size+1+1,0,none⟩))]⟩:Mk)],by rw [eP],by rw [a5];exact H,by rw [a5];simp⟩
    clear b8 N b0 U a9 Z
    go_wp2_with fail
    refine c2.mono ?_;rintro e w4 ⟨rfl,a8,h4⟩;go_wp2;go_ret;refine ⟨a8,?_⟩;rw [a7.out];exact ⟨rfl,h4⟩
theorem fY.first {B:Nat} {w j:World} {u k:Nat} {o:Option (Int × List (Tr × Int))} {e:Ending} {w':World} (y:Below B w j) (h:fY B j u k o e w'):fY B w u k o e w':=⟨y.trans h.1,h.2⟩
theorem aLR {j:Int} {st:List (Tr × Int)} {p:Pc} (h:(p.k≠1/\0<p.t.length)\/(p.k≠7/\p.n≠0)):bP j st p=none:=by unfold bP;rw [if_pos h]
theorem aKq {j:Int} {st:List (Tr × Int)} {p:Pc} (h:¬ ((p.k≠1/\0<p.t.length)\/(p.k≠7/\p.n≠0))) (u:p.k=1):bP j st p=fW j st p:=by unfold bP fW;rw [if_neg h,if_pos u]
theorem vR {j:Int} {st:List (Tr × Int)} {p:Pc} (h:¬ ((p.k≠1/\0<p.t.length)\/(p.k≠7/\p.n≠0))) (u:¬ p.k=1) (y:p.k=0\/p.k=2\/p.k=3\/p.k=4\/p.k=5):bP j st p=some (j,(.leaf p,0)::st):=by
 unfold bP;rw [if_neg h,if_neg u,if_pos y]
theorem aFQ {j:Int} {st:List (Tr × Int)} {p:Pc} (h:¬ ((p.k≠1/\0<p.t.length)\/(p.k≠7/\p.n≠0))) (u:p.k=6\/p.k=9):bP j st p=lK j st p:=by
 unfold bP lK;rw [if_neg h,if_neg (by omega),if_neg (by omega),if_pos u];rcases st with _ | ⟨⟨y,A⟩,_ | ⟨⟨x,nx⟩,r⟩⟩<;>rfl
theorem aBC {j:Int} {st:List (Tr × Int)} {p:Pc} (h:¬ ((p.k≠1/\0<p.t.length)\/(p.k≠7/\p.n≠0))) (u:p.k=7\/p.k=8):bP j st p=eX j st p:=by
 unfold bP eX;rw [if_neg h,if_neg (by omega),if_neg (by omega),if_neg (by omega),if_pos u];rcases st with _ | ⟨⟨x,nx⟩,r⟩<;>rfl
theorem aHP {j:Int} {st:List (Tr × Int)} {p:Pc} (h:¬ ((p.k≠1/\0<p.t.length)\/(p.k≠7/\p.n≠0))) (u:p.k<0\/9<p.k):bP j st p=none:=by
 unfold bP;rw [if_neg h,if_neg (by omega),if_neg (by omega),if_neg (by omega),if_neg (by omega)]
theorem aH2 (B:Nat) (w:World) (bb:Nat) (nv rv:Value) (D:List Mk) (u:Int) (p:Pc) (tv:Value) (hS:Bst B w bb nv rv D (cB D) u) (hv:RdB B w tv p.t) (d5:Sl tv p.t.length) (g1:Bys p.t) (hn:p.t.length<=1048576)
  (g0:0<=u) (f8:u<=100000) (hB:B<=w.heap.size) (f9:0<B) (Z:Tab w) (hl:D.length<=1048576) (a5:(cB D).length<=1048576) (f3:∀ x∈D,0<=x.n/\x.n<=4000) :
  Calls prog 90 #[.pointer (some ⟨bb,0,none⟩),.agg #[.int .i64 p.k,tv,.int .i64 p.n]] w fun e w'=>fY B w bb ((cB D).length+1) (bP u (cF D) p) e w':=by
 obtain ⟨ta,g3,U,g8,g7⟩:=id d5;have hg:w.grownBy (w.alloc (.cells #[.int .i64 p.k,tv,.int .i64 p.n] 74)) none:=gWA;have HS:Hid (Bst B (w.alloc (.cells #[.int .i64 p.k,tv,.int .i64 p.n] 74)) bb nv rv D (cB D) u):=hS.K hg;have H:Hid (Below B w (w.alloc (.cells #[.int .i64 p.k,tv,.int .i64 p.n] 74))):=(Below.refl B w).grown hg hB (fun k e=>by cases e);have HV:Hid (RdB B (w.alloc (.cells #[.int .i64 p.k,tv,.int .i64 p.n] 74)) tv p.t):=hv.K hg;have HT:Hid (Tab (w.alloc (.cells #[.int .i64 p.k,tv,.int .i64 p.n] 74))):=Z.K hg;have f6:Hid (Sl tv p.t.length):=d5;have d8:Hid (∀ x∈D,0<=x.n/\x.n<=4000):=f3;have d9:B<=(w.alloc (.cells #[.int .i64 p.k,tv,.int .i64 p.n] 74)).heap.size:=Nat.le_trans hB hg.size;have a4:=d9;clear hS hv Z d5 hg f3 d9
 by_cases S:(p.k≠1/\0<p.t.length)\/(p.k≠7/\p.n≠0)
 ·have X:Hid (bP u (cF D) p=none):=aLR S;subst U
  by_cases b6:p.k≠1/\0<p.t.length
  ·obtain ⟨h1,h2⟩:=b6;have e1:(p.k != 1)=true:=(by simpa using h1);clear S h1
   go_enter func90,ntmps90
   go_wp2;go_ret;exact ⟨H.out,by rw [X.out];rfl⟩
  ·have f7:p.k≠7/\p.n≠0:=(by rcases S with h | h;exact absurd h b6;exact h);obtain ⟨h1,h2⟩:=f7;have e7:(p.k != 7)=true:=(by simpa using h1);have e0:(p.n != 0)=true:=by simpa using h2
   by_cases b7:p.k=1
   ·have e1:(p.k != 1)=false:=(by rw [b7];rfl);clear S h1 h2 b6 b7
    go_enter func90,ntmps90
    go_wp2;go_ret;exact ⟨H.out,by rw [X.out];rfl⟩
   ·have e1:(p.k != 1)=true:=(by simpa using b7);have L:¬ 0<p.t.length:=fun h=>b6 ⟨b7,h⟩;clear S h1 h2 b6 b7
    go_enter func90,ntmps90
    go_wp2;go_ret;exact ⟨H.out,by rw [X.out];rfl⟩
 have J:Hid (¬ ((p.k≠1/\0<p.t.length)\/(p.k≠7/\p.n≠0))):=S;have y:p.k≠1->¬ 0<p.t.length:=fun h1 h2=>S (.inl ⟨h1,h2⟩);have G:p.k≠7->p.n=0:=fun h1=>by by_cases h:p.n=0;exact h;exact absurd (.inr ⟨h1,h⟩) S
 clear S
 by_cases j:p.k=1
 ·have X:Hid (bP u (cF D) p=fW u (cF D) p):=aKq J.out j;have Z:=aBe B _ bb nv rv D u p tv HS.out j HV.out f6.out g1 hn g0 f8 a4 f9 HT.out hl a5;have A:p.n=0:=G (by omega);have en:(p.n != 0)=false:=(by rw [A];rfl);have q0:(p.k==0)=false:=(by rw [j];rfl);have q1:(p.k==1)=true:=(by rw [j];rfl);have q2:(p.k==2)=false:=(by rw [j];rfl);have q3:(p.k==3)=false:=(by rw [j];rfl);have q4:(p.k==4)=false:=(by rw [j];rfl);have q5:(p.k==5)=false:=(by rw [j];rfl);have q6:(p.k==6)=false:=(by rw [j];rfl);have q7:(p.k==7)=false:=(by rw [j];rfl);have q8:(p.k==8)=false:=(by rw [j];rfl);have q9:(p.k==9)=false:=(by rw [j];rfl);have e1:(p.k != 1)=false:=(by rw [j];rfl);have e7:(p.k != 7)=true:=(by rw [j];rfl);clear j y G A;subst U
  go_enter func90,ntmps90
  go_wp2_with fail
  refine Z.mono ?_;intro e w2 h2;have h3:=fY.first H.out h2;rw [<- X.out] at h3;obtain ⟨Y,O⟩:=h3;cases E:bP u (cF D) p with
  | none=>
    rw [E] at O;simp only at O;subst O;go_wp2;go_ret;exact ⟨Y,by rw [E];rfl⟩
  | some x=>
    rw [E] at O;obtain ⟨x1,x2⟩:=x;obtain ⟨h5,h6⟩:=O;subst h5;go_wp2;go_ret;exact ⟨Y,by rw [E];exact ⟨rfl,h6⟩⟩
 have M:=j
 by_cases j:p.k=0
 ·have X:Hid (bP u (cF D) p=some (u,(.leaf p,0)::cF D)):=vR J.out M (by omega);have A:p.n=0:=G (by omega);have en:(p.n != 0)=false:=(by rw [A];rfl);have L:=y (by omega);have Z:=kF B _ bb nv rv D (cB D) u ⟨.iface 182 (.agg #[]),.leaf p,0,[.iface 182 (.agg #[])]⟩ HS.out (by simp only [Rep];exact .inl ⟨j,trivial⟩) rfl (fun t b e=>by cases e) a4 hl a5;have q0:(p.k==0)=true:=(by rw [j];rfl);have q1:(p.k==1)=false:=(by rw [j];rfl);have q2:(p.k==2)=false:=(by rw [j];rfl);have q3:(p.k==3)=false:=(by rw [j];rfl);have q4:(p.k==4)=false:=(by rw [j];rfl);have q5:(p.k==5)=false:=(by rw [j];rfl);have q6:(p.k==6)=false:=(by rw [j];rfl);have q7:(p.k==7)=false:=(by rw [j];rfl);have q8:(p.k==8)=false:=(by rw [j];rfl);have q9:(p.k==9)=false:=(by rw [j];rfl);have e1:(p.k != 1)=true:=(by rw [j];rfl);have e7:(p.k != 7)=true:=(by rw [j];rfl);clear j y G A M;subst U
  go_enter func90,ntmps90
  go_wp2_with fail
  refine Z.mono ?_;rintro e w2 ⟨rfl,a7,a6,a8,N⟩;have Y:=H.out.trans N.bel;clear N;go_wp2;go_ret;refine ⟨Y,?_⟩;rw [X.out];exact ⟨rfl,a7,a6,D++[⟨.iface 182 (.agg #[]),.leaf p,0,[.iface 182 (.agg #[])]⟩],eP _ _,by rw [cZ,cX];exact a8,by rw [cZ,cX];simp⟩
 by_cases j:p.k=2
 ·have X:Hid (bP u (cF D) p=some (u,(.leaf p,0)::cF D)):=vR J.out M (by omega);have A:p.n=0:=G (by omega);have en:(p.n != 0)=false:=(by rw [A];rfl);have L:=y (by omega);have Z:=kF B _ bb nv rv D (cB D) u ⟨.iface 183 (.agg #[]),.leaf p,0,[.iface 183 (.agg #[])]⟩ HS.out (by simp only [Rep];exact .inr (.inl ⟨j,trivial⟩)) rfl (fun t b e=>by cases e) a4 hl a5;have q0:(p.k==0)=false:=(by rw [j];rfl);have q1:(p.k==1)=false:=(by rw [j];rfl);have q2:(p.k==2)=true:=(by rw [j];rfl);have q3:(p.k==3)=false:=(by rw [j];rfl);have q4:(p.k==4)=false:=(by rw [j];rfl);have q5:(p.k==5)=false:=(by rw [j];rfl);have q6:(p.k==6)=false:=(by rw [j];rfl);have q7:(p.k==7)=false:=(by rw [j];rfl);have q8:(p.k==8)=false:=(by rw [j];rfl);have q9:(p.k==9)=false:=(by rw [j];rfl);have e1:(p.k != 1)=true:=(by rw [j];rfl);have e7:(p.k != 7)=true:=(by rw [j];rfl);clear j y G A M;subst U
  go_enter func90,ntmps90
  go_wp2_with fail
  refine Z.mono ?_;rintro e w2 ⟨rfl,a7,a6,a8,N⟩;have Y:=H.out.trans N.bel;clear N;go_wp2;go_ret;refine ⟨Y,?_⟩;rw [X.out];exact ⟨rfl,a7,a6,D++[⟨.iface 183 (.agg #[]),.leaf p,0,[.iface 183 (.agg #[])]⟩],eP _ _,by rw [cZ,cX];exact a8,by rw [cZ,cX];simp⟩
 by_cases j:p.k=3
 ·have X:Hid (bP u (cF D) p=some (u,(.leaf p,0)::cF D)):=vR J.out M (by omega);have A:p.n=0:=G (by omega);have en:(p.n != 0)=false:=(by rw [A];rfl);have L:=y (by omega);have Z:=kF B _ bb nv rv D (cB D) u ⟨.iface 184 (.agg #[]),.leaf p,0,[.iface 184 (.agg #[])]⟩ HS.out (by simp only [Rep];exact .inr (.inr (.inl ⟨j,trivial⟩))) rfl (fun t b e=>by cases e) a4 hl a5;have q0:(p.k==0)=false:=(by rw [j];rfl);have q1:(p.k==1)=false:=(by rw [j];rfl);have q2:(p.k==2)=false:=(by rw [j];rfl);have q3:(p.k==3)=true:=(by rw [j];rfl);have q4:(p.k==4)=false:=(by rw [j];rfl);have q5:(p.k==5)=false:=(by rw [j];rfl);have q6:(p.k==6)=false:=(by rw [j];rfl);have q7:(p.k==7)=false:=(by rw [j];rfl);have q8:(p.k==8)=false:=(by rw [j];rfl);have q9:(p.k==9)=false:=(by rw [j];rfl);have e1:(p.k != 1)=true:=(by rw [j];rfl);have e7:(p.k != 7)=true:=(by rw [j];rfl);clear j y G A M;subst U
  go_enter func90,ntmps90
  go_wp2_with fail
  refine Z.mono ?_;rintro e w2 ⟨rfl,a7,a6,a8,N⟩;have Y:=H.out.trans N.bel;clear N;go_wp2;go_ret;refine ⟨Y,?_⟩;rw [X.out];exact ⟨rfl,a7,a6,D++[⟨.iface 184 (.agg #[]),.leaf p,0,[.iface 184 (.agg #[])]⟩],eP _ _,by rw [cZ,cX];exact a8,by rw [cZ,cX];simp⟩
 by_cases j:p.k=4
 ·have X:Hid (bP u (cF D) p=some (u,(.leaf p,0)::cF D)):=vR J.out M (by omega);have A:p.n=0:=G (by omega);have en:(p.n != 0)=false:=(by rw [A];rfl);have L:=y (by omega);have Z:=kF B _ bb nv rv D (cB D) u ⟨.iface 185 (.agg #[]),.leaf p,0,[.iface 185 (.agg #[])]⟩ HS.out (by simp only [Rep];exact .inr (.inr (.inr (.inl ⟨j,trivial⟩)))) rfl (fun t b e=>by cases e) a4 hl a5;have q0:(p.k==0)=false:=(by rw [j];rfl);have q1:(p.k==1)=false:=(by rw [j];rfl);have q2:(p.k==2)=false:=(by rw [j];rfl);have q3:(p.k==3)=false:=(by rw [j];rfl);have q4:(p.k==4)=true:=(by rw [j];rfl);have q5:(p.k==5)=false:=(by rw [j];rfl);have q6:(p.k==6)=false:=(by rw [j];rfl);have q7:(p.k==7)=false:=(by rw [j];rfl);have q8:(p.k==8)=false:=(by rw [j];rfl);have q9:(p.k==9)=false:=(by rw [j];rfl);have e1:(p.k != 1)=true:=(by rw [j];rfl);have e7:(p.k != 7)=true:=(by rw [j];rfl);clear j y G A M;subst U
  go_enter func90,ntmps90
  go_wp2_with fail
  refine Z.mono ?_;rintro e w2 ⟨rfl,a7,a6,a8,N⟩;have Y:=H.out.trans N.bel;clear N;go_wp2;go_ret;refine ⟨Y,?_⟩;rw [X.out];exact ⟨rfl,a7,a6,D++[⟨.iface 185 (.agg #[]),.leaf p,0,[.iface 185 (.agg #[])]⟩],eP _ _,by rw [cZ,cX];exact a8,by rw [cZ,cX];simp⟩
 by_cases j:p.k=5
 ·have X:Hid (bP u (cF D) p=some (u,(.leaf p,0)::cF D)):=vR J.out M (by omega);have A:p.n=0:=G (by omega);have en:(p.n != 0)=false:=(by rw [A];rfl);have L:=y (by omega);have Z:=kF B _ bb nv rv D (cB D) u ⟨.iface 186 (.agg #[]),.leaf p,0,[.iface 186 (.agg #[])]⟩ HS.out (by simp only [Rep];exact .inr (.inr (.inr (.inr (.inl ⟨j,trivial⟩))))) rfl (fun t b e=>by cases e) a4 hl a5;have q0:(p.k==0)=false:=(by rw [j];rfl);have q1:(p.k==1)=false:=(by rw [j];rfl);have q2:(p.k==2)=false:=(by rw [j];rfl);have q3:(p.k==3)=false:=(by rw [j];rfl);have q4:(p.k==4)=false:=(by rw [j];rfl);have q5:(p.k==5)=true:=(by rw [j];rfl);have q6:(p.k==6)=false:=(by rw [j];rfl);have q7:(p.k==7)=false:=(by rw [j];rfl);have q8:(p.k==8)=false:=(by rw [j];rfl);have q9:(p.k==9)=false:=(by rw [j];rfl);have e1:(p.k != 1)=true:=(by rw [j];rfl);have e7:(p.k != 7)=true:=(by rw [j];rfl);clear j y G A M;subst U
  go_enter func90,ntmps90
  go_wp2_with fail
  refine Z.mono ?_;rintro e w2 ⟨rfl,a7,a6,a8,N⟩;have Y:=H.out.trans N.bel;clear N;go_wp2;go_ret;refine ⟨Y,?_⟩;rw [X.out];exact ⟨rfl,a7,a6,D++[⟨.iface 186 (.agg #[]),.leaf p,0,[.iface 186 (.agg #[])]⟩],eP _ _,by rw [cZ,cX];exact a8,by rw [cZ,cX];simp⟩
 by_cases j:p.k=6
 ·have X:Hid (bP u (cF D) p=lK u (cF D) p):=aFQ J.out (by omega);have L:=y (by omega);have Z:=uY B _ bb nv rv D u p HS.out (by omega) a4 hl a5;have A:p.n=0:=G (by omega);have en:(p.n != 0)=false:=(by rw [A];rfl);clear A;have q0:(p.k==0)=false:=(by rw [j];rfl);have q1:(p.k==1)=false:=(by rw [j];rfl);have q2:(p.k==2)=false:=(by rw [j];rfl);have q3:(p.k==3)=false:=(by rw [j];rfl);have q4:(p.k==4)=false:=(by rw [j];rfl);have q5:(p.k==5)=false:=(by rw [j];rfl);have q6:(p.k==6)=true:=(by rw [j];rfl);have q7:(p.k==7)=false:=(by rw [j];rfl);have q8:(p.k==8)=false:=(by rw [j];rfl);have q9:(p.k==9)=false:=(by rw [j];rfl);have e1:(p.k != 1)=true:=(by rw [j];rfl);have e7:(p.k != 7)=true:=(by rw [j];rfl);clear j y G M;subst U
  go_enter func90,ntmps90
  go_wp2_with fail
  refine Z.mono ?_;intro e w2 h2;have h3:=fY.first H.out h2;rw [<- X.out] at h3;obtain ⟨Y,O⟩:=h3;cases E:bP u (cF D) p with
  | none=>
    rw [E] at O;simp only at O;subst O;go_wp2;go_ret;exact ⟨Y,by rw [E];rfl⟩
  | some x=>
    rw [E] at O;obtain ⟨x1,x2⟩:=x;obtain ⟨h5,h6⟩:=O;subst h5;go_wp2;go_ret;exact ⟨Y,by rw [E];exact ⟨rfl,h6⟩⟩
 by_cases j:p.k=9
 ·have X:Hid (bP u (cF D) p=lK u (cF D) p):=aFQ J.out (by omega);have L:=y (by omega);have Z:=uY B _ bb nv rv D u p HS.out (by omega) a4 hl a5;have A:p.n=0:=G (by omega);have en:(p.n != 0)=false:=(by rw [A];rfl);clear A;have q0:(p.k==0)=false:=(by rw [j];rfl);have q1:(p.k==1)=false:=(by rw [j];rfl);have q2:(p.k==2)=false:=(by rw [j];rfl);have q3:(p.k==3)=false:=(by rw [j];rfl);have q4:(p.k==4)=false:=(by rw [j];rfl);have q5:(p.k==5)=false:=(by rw [j];rfl);have q6:(p.k==6)=false:=(by rw [j];rfl);have q7:(p.k==7)=false:=(by rw [j];rfl);have q8:(p.k==8)=false:=(by rw [j];rfl);have q9:(p.k==9)=true:=(by rw [j];rfl);have e1:(p.k != 1)=true:=(by rw [j];rfl);have e7:(p.k != 7)=true:=(by rw [j];rfl);clear j y G M;subst U
  go_enter func90,ntmps90
  go_wp2_with fail
  refine Z.mono ?_;intro e w2 h2;have h3:=fY.first H.out h2;rw [<- X.out] at h3;obtain ⟨Y,O⟩:=h3;cases E:bP u (cF D) p with
  | none=>
    rw [E] at O;simp only at O;subst O;go_wp2;go_ret;exact ⟨Y,by rw [E];rfl⟩
  | some x=>
    rw [E] at O;obtain ⟨x1,x2⟩:=x;obtain ⟨h5,h6⟩:=O;subst h5;go_wp2;go_ret;exact ⟨Y,by rw [E];exact ⟨rfl,h6⟩⟩
 by_cases j:p.k=7
 ·have X:Hid (bP u (cF D) p=eX u (cF D) p):=aBC J.out (by omega);have L:=y (by omega);have Z:=rE B _ bb nv rv D u p HS.out (.inr j) a4 hl a5 d8.out;have q0:(p.k==0)=false:=(by rw [j];rfl);have q1:(p.k==1)=false:=(by rw [j];rfl);have q2:(p.k==2)=false:=(by rw [j];rfl);have q3:(p.k==3)=false:=(by rw [j];rfl);have q4:(p.k==4)=false:=(by rw [j];rfl);have q5:(p.k==5)=false:=(by rw [j];rfl);have q6:(p.k==6)=false:=(by rw [j];rfl);have q7:(p.k==7)=true:=(by rw [j];rfl);have q8:(p.k==8)=false:=(by rw [j];rfl);have q9:(p.k==9)=false:=(by rw [j];rfl);have e1:(p.k != 1)=true:=(by rw [j];rfl);have e7:(p.k != 7)=false:=(by rw [j];rfl);clear j y G M;subst U
  go_enter func90,ntmps90
  go_wp2_with fail
  refine Z.mono ?_;intro e w2 h2;have h3:=fY.first H.out h2;rw [<- X.out] at h3;obtain ⟨Y,O⟩:=h3;cases E:bP u (cF D) p with
  | none=>
    rw [E] at O;simp only at O;subst O;go_wp2;go_ret;exact ⟨Y,by rw [E];rfl⟩
  | some x=>
    rw [E] at O;obtain ⟨x1,x2⟩:=x;obtain ⟨h5,h6⟩:=O;subst h5;go_wp2;go_ret;exact ⟨Y,by rw [E];exact ⟨rfl,h6⟩⟩
 by_cases j:p.k=8
 ·have X:Hid (bP u (cF D) p=eX u (cF D) p):=aBC J.out (by omega);have L:=y (by omega);have Z:=rE B _ bb nv rv D u p HS.out (.inl ⟨j,G (by omega)⟩) a4 hl a5 d8.out;have A:p.n=0:=G (by omega);have en:(p.n != 0)=false:=(by rw [A];rfl);clear A;have q0:(p.k==0)=false:=(by rw [j];rfl);have q1:(p.k==1)=false:=(by rw [j];rfl);have q2:(p.k==2)=false:=(by rw [j];rfl);have q3:(p.k==3)=false:=(by rw [j];rfl);have q4:(p.k==4)=false:=(by rw [j];rfl);have q5:(p.k==5)=false:=(by rw [j];rfl);have q6:(p.k==6)=false:=(by rw [j];rfl);have q7:(p.k==7)=false:=(by rw [j];rfl);have q8:(p.k==8)=true:=(by rw [j];rfl);have q9:(p.k==9)=false:=(by rw [j];rfl);have e1:(p.k != 1)=true:=(by rw [j];rfl);have e7:(p.k != 7)=true:=(by rw [j];rfl);clear j y G M;subst U
  go_enter func90,ntmps90
  go_wp2_with fail
  refine Z.mono ?_;intro e w2 h2;have h3:=fY.first H.out h2;rw [<- X.out] at h3;obtain ⟨Y,O⟩:=h3;cases E:bP u (cF D) p with
  | none=>
    rw [E] at O;simp only at O;subst O;go_wp2;go_ret;exact ⟨Y,by rw [E];rfl⟩
  | some x=>
    rw [E] at O;obtain ⟨x1,x2⟩:=x;obtain ⟨h5,h6⟩:=O;subst h5;go_wp2;go_ret;exact ⟨Y,by rw [E];exact ⟨rfl,h6⟩⟩
 have d7:p.k<0\/9<p.k:=(by omega);have X:Hid (bP u (cF D) p=none):=aHP J.out d7;have A:p.n=0:=G (by omega);have en:(p.n != 0)=false:=(by rw [A];rfl);have L:=y (by omega);have q0:(p.k==0)=false:=(by simp;omega);have q1:(p.k==1)=false:=(by simp;omega);have q2:(p.k==2)=false:=(by simp;omega);have q3:(p.k==3)=false:=(by simp;omega);have q4:(p.k==4)=false:=(by simp;omega);have q5:(p.k==5)=false:=(by simp;omega);have q6:(p.k==6)=false:=(by simp;omega);have q7:(p.k==7)=false:=(by simp;omega);have q8:(p.k==8)=false:=(by simp;omega);have q9:(p.k==9)=false:=(by simp;omega);have e1:(p.k != 1)=true:=(by simp;omega);have e7:(p.k != 7)=true:=(by simp;omega);clear d7 y G A M;subst U
 go_enter func90,ntmps90
 go_wp2;go_ret;exact ⟨H.out,by rw [X.out];rfl⟩
end Go.Proofs.YtgifkcpdihphlaaGreatDoor
