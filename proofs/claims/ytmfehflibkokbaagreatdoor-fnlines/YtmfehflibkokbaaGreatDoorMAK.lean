import Derived.Test.YtmfehflibkokbaaGreatDoorMAJ
set_option maxHeartbeats 16000000
set_option maxRecDepth 100000
namespace Go.Proofs.YtmfehflibkokbaaGreatDoor
open Go.Proofs.Tryz
open Go.RowKit
def cF (rs:List Mk):List (Tr × Int):=(rs.map fun x=>(x.T,x.n)).reverse
theorem eJ (h:List Mk) (x:Mk):cF (h++[x])=(x.T,x.n)::cF h:=by simp [cF]
theorem qS (h:List Mk):(cF h).length=h.length:=by simp [cF]
def fT (B:Nat) (w:World) (bb k:Nat) (o:Option (Int × List (Tr × Int))) (e:Ending) (w':World):Prop:=
 Below B w w'/\match o with
  | none=>e=.returned (.bool false)
  | some (r,st)=>e=.returned (.bool true)/\∃ nv rv rs,cF rs=st/\Bst B w' bb nv rv rs (bY rs) r/\(bY rs).length=k
theorem aGD (t:List Int) (k:Nat) (A:k<t.length) (h:10 ∉ t.take k) (y:¬ t[k]?.getD 0=10):10 ∉ t.take (k+1):=by
 rw [eG t k A];simp only [List.mem_append,List.mem_cons,List.not_mem_nil,or_false,not_or];exact ⟨h,fun e=>y e.symm⟩
theorem xG (v:Value) (t:List Int) (w:World) (hv:RdB w.heap.size w v t) (U:t.length<=1048576) :
  Calls prog 155 #[v,.int .u8 10] w fun e w'=>(∃ i:Int,e=.returned (.int .i64 i)/\decide (0<=i)=t.contains 10)/\w=w':=by
 obtain ⟨a,cap,rfl,G⟩:=hv
 go_enter func155,ntmps155
 go_wp2
 go_loopw [8] (fun i wr=>∃ k:Nat,k<=t.length/\i=.int .i64 k/\Hid (10 ∉ t.take k)/\Hid (wr=w)) (fun i _=>t.length - (intOf i).toNat)
 case atStart=>exact ⟨0,Nat.zero_le _,rfl,by unfold Hid;simp,rfl⟩
 case round=>
  obtain ⟨k,X,rfl,D,HW⟩:=hrel;have M:=HW.out;clear HW;subst M
  by_cases y:k<t.length
  ·obtain ⟨b,off,rfl,Y,N⟩:=G (fun e=>by rw [e] at y;simp at y);have O:=N k y;clear N G
   by_cases h:t[k]?.getD 0=10
   ·have E:Hid (t.contains 10=true):=by
     unfold Hid;rw [List.contains_iff_mem,<- h];simp [y]
    have A:((10:Int)==10)=true:=rfl;rw [h] at O;clear h;go_wp2;go_ret;exact ⟨⟨k,rfl,by rw [E.out];simp⟩,rfl⟩
   ·have S:Hid (10 ∉ t.take (k+1)):=aGD t k y D.out h;have A:((10:Int)==(t[k]?.getD 0))=false:=(by simp;exact fun e=>h e.symm);generalize t[k]?.getD 0=z at O A;clear h;go_wp2
    go_roundw
    case rel=>exact ⟨k+1,by omega,by go_num,S,by first | rfl | trivial⟩
    case measure=>simp [intOf];omega
  ·have J:k=t.length:=by omega
   have E:Hid (t.contains 10=false):=by
    have:=D.out;rw [J,List.take_length] at this;unfold Hid;simpa using this
   clear G;go_wp2;go_ret;exact ⟨⟨-1,rfl,by rw [E.out];rfl⟩,rfl⟩
theorem mK (v:Value) (t:List Int) (w:World) (hv:RdB w.heap.size w v t) (y:t.length<=1048576) :
  Calls prog 141 #[v,.int .u8 10] w fun e w'=>e=.returned (.bool (t.contains 10))/\w=w':=by
 have E:=xG v t w hv y;obtain ⟨a,cap,rfl,A⟩:=hv;clear A
 go_enter func141,ntmps141
 go_wp2_with fail
 refine E.mono ?_;rintro e G ⟨⟨i,rfl,h⟩,rfl⟩;have D:Hid (decide (0<=i)=t.contains 10):=h;clear h;go_wp2;go_ret;exact ⟨by rw [<- D.out];rfl,rfl⟩
theorem Bst.setRoom {B:Nat} {w:World} {A:Nat} {nv M:Value} {N:List Mk} {O:List Value} {E:Int} (h:Bst B w A nv M N O E) (r:Int):Bst B (w.setCell ⟨A,2,none⟩ (.int .i64 r)) A nv M N O r:=by
 have D:Below B w (w.setCell ⟨A,2,none⟩ (.int .i64 r)):=(Below.refl B w).setCell h.big _;have X:=h.c0;have Y:=h.c1;have S:=h.c2
 have y:∀ b,b<w.heap.size->¬ Xof A nv M b->(w.setCell ⟨A,2,none⟩ (.int .i64 r)).heap[b]?=w.heap[b]?:=by
  intro b Z J;exact heap_setCell_other _ _ _ _ (fun e=>J (.inl (by simpa using e)))
 refine ⟨h.big,by simp [go_sem,X],by simpa using h.f0,by simp [go_sem,Y],by simpa using h.f1,by simp [go_sem,S],by simpa using h.f2,cP h.nrow _ _ h.nap,cP h.row _ _ h.ap,h.ap,h.nap,h.nr,h.once.turn y (fun _ _ h=>h),fun x G=>(h.rep x G).turn D.size y (fun _ _ h=>h) (fun tv t U=>Rd.below U D),fun x G=>(h.post x G).turn y (h.rep x G)⟩
def fU (room:Int) (st:List (Tr × Int)) (p:Pc):Option (Int × List (Tr × Int)):=
 if room<p.t.length then none else if aI p.t<0\/p.t.contains 10=true then none else some (room - p.t.length,(.leaf p,0)::st)
theorem aAM (B:Nat) (w:World) (M:Nat) (nv rv:Value) (G:List Mk) (y:Int) (p:Pc) (tv:Value) (hS:Bst B w M nv rv G (bY G) y) (hk:p.k=1) (hv:RdB B w tv p.t) (Y:Sl tv p.t.length) (d8:Bys p.t) (hn:p.t.length<=1048576)
  (f8:0<=y) (f5:y<=100000) (hB:B<=w.heap.size) (d1:0<B) (hT:Tab w) (hl:G.length<=1048576) (c6:(bY G).length<=1048576) :
  Calls prog 113 #[.pointer (some ⟨M,0,none⟩),tv] w fun e w'=>fT B w M ((bY G).length+1) (fU y (cF G) p) e w':=by
 have c2:=hS.c2;have f2:=hS.f2;obtain ⟨ta,J,Z,f3,f7⟩:=id Y
 by_cases A:y<p.t.length
 ·have HF:Hid (fU y (cF G) p=none):=(by unfold Hid fU;rw [if_pos A]);subst Z;clear hS hv hT
  go_enter func113,ntmps113
  go_wp2;go_ret;exact ⟨Below.refl _ _,by rw [HF.out];rfl⟩
 ·have X:Below B w (w.setCell ⟨M,2,none⟩ (.int .i64 (y - p.t.length))):=(Below.refl B w).setCell hS.big _;have HS:Hid (Bst B (w.setCell ⟨M,2,none⟩ (.int .i64 (y - p.t.length))) M nv rv G (bY G) (y - p.t.length)):=hS.setRoom _;have O:Hid (Below B w (w.setCell ⟨M,2,none⟩ (.int .i64 (y - p.t.length)))):=X;have HV:Hid (RdB B (w.setCell ⟨M,2,none⟩ (.int .i64 (y - p.t.length))) tv p.t):=Rd.below hv X;have hW:=tO tv p.t (w.setCell ⟨M,2,none⟩ (.int .i64 (y - p.t.length))) (HV.out.wide (by simpa using hB)) d8 hn Y (hT.below X d1);have c0:(w.setCell ⟨M,2,none⟩ (.int .i64 (y - p.t.length))).heap.size=w.heap.size:=(by simp);have b9:Hid ((w.setCell ⟨M,2,none⟩ (.int .i64 (y - p.t.length))).heap.size=w.heap.size):=c0;have d4:Hid (Sl tv p.t.length):=Y;have a6:=uO p.t;clear hS hv hT X Y c0
  by_cases b3:aI p.t<0
  ·have HF:Hid (fU y (cF G) p=none):=(by unfold Hid fU;rw [if_neg A,if_pos (.inl b3)]);generalize aI p.t=U at *;subst Z;clear HS HV a6
   go_enter func113,ntmps113
   go_wp2_with fail
   refine hW.mono ?_;rintro e E ⟨rfl,D⟩;go_wp2;go_ret;exact ⟨O.out.grown D (by simpa using hB) (fun k e=>by cases e),by rw [HF.out];rfl⟩
  ·cases N:p.t.contains 10 with
   | true=>
     have HF:Hid (fU y (cF G) p=none):=(by unfold Hid fU;rw [if_neg A,if_pos (.inr N)]);generalize aI p.t=U at *;subst Z;clear HS a6
     go_enter func113,ntmps113
     go_wp2_with fail
     refine hW.mono ?_;rintro e E ⟨rfl,D⟩;have hC:=mK _ p.t E ((HV.out.K D).wide (by have:=D.size;rw [b9.out] at this;omega)) hn;rw [N] at hC;clear N HV
     go_wp2_with fail
     refine hC.mono ?_;rintro e w3 ⟨rfl,rfl⟩;go_wp2;go_ret;exact ⟨O.out.grown D (by simpa using hB) (fun k e=>by cases e),by rw [HF.out];rfl⟩
   | false=>
     have HF:Hid (fU y (cF G) p=some (y - p.t.length,(.leaf p,0)::cF G)):=by
      unfold Hid fU;rw [if_neg A,if_neg (by rw [N];simp;omega)]
     have d3:Hid (∀ U,aI p.t=U->True):=fun _ _=>trivial;obtain ⟨U,S⟩:∃ U,U=aI p.t:=⟨_,rfl⟩;have d0:Hid (U=aI p.t):=S;rw [<- S] at hW b3;clear S a6 d3;subst Z
     go_enter func113,ntmps113
     go_wp2_with fail
     refine hW.mono ?_;rintro e E ⟨rfl,D⟩;have c8:=D.size;rw [b9.out] at c8;have hC:=mK _ p.t E ((HV.out.K D).wide (by omega)) hn;rw [N] at hC;clear N
     go_wp2_with fail
     refine hC.mono ?_;rintro e w3 ⟨rfl,rfl⟩;have b0:E.grownBy (E.alloc (.cells #[.slice ta p.t.length J,.int .i64 U] 71)) none:=gWA;have b7:=(HS.out.K D).K b0;have g0:=(HS.out.K D).lt;have c7:=World.ownsRow.lt (HS.out.K D).row;have d7:=World.ownsRow.lt (HS.out.K D).nrow
     have a7:¬ Xof M nv rv E.heap.size:=by
      intro hx;rcases hx with h | h | h
      ·omega
      ·have:=d7 _ h;omega
      ·have:=c7 _ h;omega
     have a5:Rep (Xof M nv rv) B (E.alloc (.cells #[.slice ta p.t.length J,.int .i64 U] 71)) (.iface 67 (.pointer (some ⟨E.heap.size,0,none⟩))) (.leaf p):=by
      simp only [Rep];exact .inr (.inr (.inr (.inr (.inr ⟨hk,E.heap.size,.slice ta p.t.length J,rfl,a7,by simp,by rw [<- d0.out];exact heap_alloc_new _ _,(HV.out.K D).K b0,d4.out⟩))))
     have b6:=(HS.out.K D).once.new 67 E.heap.size (Nat.le_refl _);have b8:=jM B _ M nv rv G (bY G) (y - p.t.length) ⟨.iface 67 (.pointer (some ⟨E.heap.size,0,none⟩)),.leaf p,0,[.iface 67 (.pointer (some ⟨E.heap.size,0,none⟩))]⟩ b7 a5 rfl (fun t b e=>by cases e;exact ⟨⟨a7,_,_,heap_alloc_new _ _⟩,b6⟩) (by simp;omega) hl c6;have a8:Hid (Below B w (E.alloc (.cells #[.slice ta p.t.length J,.int .i64 U] 71))):=(O.out.grown D (by simpa using hB) (fun k e=>by cases e)).alloc (by omega) _;clear HS HV b7 a5 b0 D hC hW b6 a7
     go_wp2_with fail
     refine b8.mono ?_;rintro e w4 ⟨rfl,d5,d6,c9,b4⟩;go_wp2;go_ret;refine ⟨a8.out.trans b4.bel,?_⟩;rw [HF.out];refine ⟨rfl,d5,d6,G++[⟨.iface 67 (.pointer (some ⟨E.heap.size,0,none⟩)),.leaf p,0,[.iface 67 (.pointer (some ⟨E.heap.size,0,none⟩))]⟩],eJ _ _,?_,?_⟩
     ·rw [cY,dC];exact c9
     ·rw [cY,dC];simp
def kY (room:Int) (st:List (Tr × Int)) (p:Pc):Option (Int × List (Tr × Int)):=
 match st with | (y,ny)::(x,nx)::r=>some (room,(.bin p x y,max nx ny)::r) | _=>none
def eV (room:Int) (st:List (Tr × Int)) (p:Pc):Option (Int × List (Tr × Int)):=
 match st with | (x,nx)::r=>if p.n<0\/4000 - nx<p.n then none else some (room,(.un p x,nx+p.n)::r) | _=>none
theorem aLV (D:List Mk) (h:¬ D.length<2):∃ (r:List Mk) (x y:Mk),D=r++[x]++[y]:=by
 obtain ⟨A,y,E⟩:∃ A y,D=A++[y]:=⟨D.dropLast,D.getLast (by intro e;rw [e] at h;simp at h),(List.dropLast_concat_getLast _).symm⟩;have J:A≠[]:=(by intro e;rw [E,e] at h;simp at h);obtain ⟨r,x,G⟩:∃ r x,A=r++[x]:=⟨A.dropLast,A.getLast J,(List.dropLast_concat_getLast _).symm⟩;exact ⟨r,x,y,by rw [E,G]⟩
theorem aL7 (y:List Mk) (h:¬ y.length<1):∃ (r:List Mk) (x:Mk),y=r++[x]:=
 ⟨y.dropLast,y.getLast (by intro e;rw [e] at h;simp at h),(List.dropLast_concat_getLast _).symm⟩
theorem aCj {B:Nat} {w:World} {A:Nat} {nv D:Value} {E:List Mk} {G:List Value} {y:Int} (h:Bst B w A nv D E G y) (b:Nat) (M:w.heap.size<=b):¬ Xof A nv D b:=by
 intro J;rcases J with e | e | e
 ·have:=h.lt;omega
 ·have:=World.ownsRow.lt h.nrow _ e;omega
 ·have:=World.ownsRow.lt h.row _ e;omega
theorem aJ5 {B:Nat} {X:Nat->Prop} {w:World} {p:Pc} {A D:Value} {x y:Tr} (S:Rep X B w A x) (M:Rep X B w D y) (N:¬ X w.heap.size) (h t:TypeId) (O:(p.k=6/\h=188)\/(p.k=9/\h=192)) :
  Rep X B (w.alloc (.cells #[A,D] t)) (.iface h (.pointer (some ⟨w.heap.size,0,none⟩))) (.bin p x y):=by
 have J:w.grownBy (w.alloc (.cells #[A,D] t)) none:=gWA;simp only [Rep];refine ⟨w.heap.size,A,D,N,by simp,by simp [go_sem],by simp [go_sem],S.K J,M.K J,?_⟩;rcases O with ⟨E,G⟩ | ⟨E,G⟩
 ·exact .inl ⟨E,by rw [G]⟩
 ·exact .inr ⟨E,by rw [G]⟩
theorem aJz {B:Nat} {X:Nat->Prop} {w:World} {p:Pc} {h:Value} {x:Tr} (E:Rep X B w h x) (y:¬ X w.heap.size) (t:TypeId) (A:p.k=8) :
  Rep X B (w.alloc (.cells #[h] t)) (.iface 185 (.pointer (some ⟨w.heap.size,0,none⟩))) (.un p x):=by
 have D:w.grownBy (w.alloc (.cells #[h] t)) none:=gWA;simp only [Rep];exact ⟨w.heap.size,h,y,by simp,by simp [go_sem],E.K D,.inl ⟨A,rfl⟩⟩
theorem aKm {B:Nat} {X:Nat->Prop} {w:World} {p:Pc} {h nv:Value} {x:Tr} (E:Rep X B w h x) (y:¬ X w.heap.size) (t:TypeId) (A:p.k=7) :
  Rep X B (w.alloc (.cells #[h,nv] t)) (.iface 180 (.pointer (some ⟨w.heap.size,0,none⟩))) (.un p x):=by
 have D:w.grownBy (w.alloc (.cells #[h,nv] t)) none:=gWA;simp only [Rep];exact ⟨w.heap.size,h,y,by simp,by simp [go_sem],E.K D,.inr ⟨A,rfl⟩⟩
theorem aI0 {X:Nat->Prop} {B:Nat} {w:World} {p:Pc} {A D:Value} {x y:Tr} {E G:List Value} (M:Rep X B w A x) (O:Rep X B w D y) (S:cS w A x E) (N:cS w D y G) (h t:TypeId) :
  cS (w.alloc (.cells #[A,D] t)) (.iface h (.pointer (some ⟨w.heap.size,0,none⟩))) (.bin p x y) (E++G++[.iface h (.pointer (some ⟨w.heap.size,0,none⟩))]):=by
 have J:w.grownBy (w.alloc (.cells #[A,D] t)) none:=gWA;simp only [cS];exact ⟨h,w.heap.size,A,D,E,G,rfl,by simp [go_sem],by simp [go_sem],S.K M J,N.K O J,rfl⟩
theorem aHc {X:Nat->Prop} {B:Nat} {w:World} {p:Pc} {y:Value} {x:Tr} {A:List Value} (D:Rep X B w y x) (J:cS w y x A) (h t:TypeId) (E:p.k≠7) :
  cS (w.alloc (.cells #[y] t)) (.iface h (.pointer (some ⟨w.heap.size,0,none⟩))) (.un p x) (A++[.iface h (.pointer (some ⟨w.heap.size,0,none⟩))]):=by
 have G:w.grownBy (w.alloc (.cells #[y] t)) none:=gWA;simp only [cS];exact ⟨h,w.heap.size,y,A,rfl,by simp [go_sem],fun e=>absurd e E,J.K D G,rfl⟩
theorem aIF {X:Nat->Prop} {B:Nat} {w:World} {p:Pc} {y:Value} {x:Tr} {A:List Value} (D:Rep X B w y x) (G:cS w y x A) (h t:TypeId) :
  cS (w.alloc (.cells #[y,.int .i64 p.n] t)) (.iface h (.pointer (some ⟨w.heap.size,0,none⟩))) (.un p x) (A++[.iface h (.pointer (some ⟨w.heap.size,0,none⟩))]):=by
 have E:w.grownBy (w.alloc (.cells #[y,.int .i64 p.n] t)) none:=gWA;simp only [cS];exact ⟨h,w.heap.size,y,A,rfl,by simp [go_sem],fun _=>by simp [go_sem],G.K D E,rfl⟩
theorem uU (B:Nat) (w:World) (O:Nat) (nv rv:Value) (E:List Mk) (h:Int) (p:Pc) (hS:Bst B w O nv rv E (bY E) h) (hk:p.k=6\/p.k=9) (hB:B<=w.heap.size) (hl:E.length<=1048576) (g2:(bY E).length<=1048576) :
  Calls prog 114 #[.pointer (some ⟨O,0,none⟩),.int .i64 p.k] w fun e w'=>fT B w O ((bY E).length+1) (kY h (cF E) p) e w':=by
 have c1:=hS.c1;obtain ⟨ra,f3,c0,i6,g0⟩:=aU hS.row
 by_cases h2:E.length<2
 ·have HF:Hid (kY h (cF E) p=none):=by
   have:=qS E;unfold Hid kY;rcases hst:cF E with _ | ⟨y,_ | ⟨x,r⟩⟩
   ·rfl
   ·rfl
   ·rw [hst] at this;simp at this;omega
  subst c0;clear hS g0
  go_enter func114,ntmps114
  go_wp2;go_ret;exact ⟨Below.refl _ _,by rw [HF.out];rfl⟩
 ·obtain ⟨r,X,Y,U⟩:=aLV E h2;have d4:r.length<=1048576:=by rw [U] at hl;simp at hl;omega
  have HF:Hid (kY h (cF E) p=some (h,(.bin p X.T Y.T,max X.n Y.n)::cF r)):=by
   unfold Hid;rw [U,eJ,eJ];rfl
  have f9:Hid (bY E=bY r++X.l++Y.l):=(by unfold Hid;rw [U,cY,cY,dC,dC]);have J:Bst B w O nv rv (r++[X]++[Y]) (bY E) h:=(by have:=hS;rw [U] at this ⊢;exact this);have hY:=J.rep Y (by simp);have hX:=J.rep X (by simp);obtain ⟨ty,uy,d8⟩:=hY.form;obtain ⟨tx,ux,d5⟩:=hX.form;have a4:=aBU B w O nv rv (r++[X]) (bY E) h Y J hB (by simp;rw [U] at hl;simp at hl;omega);have HS:Hid (Bst B w O nv rv (r++[X]++[Y]) (bY E) h):=J;have HX:Hid (Rep (Xof O nv rv) B w X.v X.T):=hX;have HY:Hid (Rep (Xof O nv rv) B w Y.v Y.T):=hY;have PX:Hid (cS w X.v X.T X.l):=J.post X (by simp);have PY:Hid (cS w Y.v Y.T Y.l):=J.post Y (by simp);rw [d8] at a4;have i7:=c0;subst c0;clear hS J hX hY U
  go_enter func114,ntmps114
  go_wp2_with fail
  refine a4.mono ?_;rintro e w1 ⟨rfl,b3,c6,c7⟩;have i4:=c7.bel.size;have c2:w1.grownBy (w1.alloc (.cells #[.iface ty uy,.int .i64 Y.n] 209)) none:=gWA;have d2:Hid (Bst B (w1.alloc (.cells #[.iface ty uy,.int .i64 Y.n] 209)) O nv b3 (r++[X]) (bY E) h):=c6.K c2;have A:Hid (Fr B O nv _ nv b3 w (w1.alloc (.cells #[.iface ty uy,.int .i64 Y.n] 209))):=c7.grown c2 hB;have S:=aBU B _ O nv b3 r (bY E) h X d2.out (by simp;omega) d4;have a7:=aCj c6 w1.heap.size (Nat.le_refl _);rw [d5] at S;clear a4 c6 c7 c2
  go_wp2_with fail
  refine S.mono ?_;rintro e M ⟨rfl,a8,d3,Z⟩;have g4:=Z.bel.size;simp only [World.size_alloc] at g4;have y0:=Z.cell (a:=⟨w1.heap.size,0,none⟩) (v:=.iface ty uy) (by simp [go_sem]) a7;have y1:=Z.cell (a:=⟨w1.heap.size,1,none⟩) (v:=.int .i64 Y.n) (by simp [go_sem]) a7;have a6:M.grownBy (M.alloc (.cells #[.iface tx ux,.int .i64 X.n] 209)) none:=gWA;have G:Hid (Fr B O nv b3 nv a8 _ (M.alloc (.cells #[.iface tx ux,.int .i64 X.n] 209))):=Z.grown a6 (by simp;omega);have b4:Hid (Bst B (M.alloc (.cells #[.iface tx ux,.int .i64 X.n] 209)) O nv a8 r (bY E) h):=d3.K a6;have h8:max X.n Y.n=if X.n<Y.n then Y.n else X.n:=(by omega);have z0:=a6.cell y0 (by simp);have z1:=a6.cell y1 (by simp);have h3:w1.heap.size≠M.heap.size:=(by omega);clear S d3 Z a6 d2 y0 y1;have b7:=aCj b4.out (M.heap.size+1) (by simp);have b2:=G.out.rep (A.out.rep HX.out);have b1:=G.out.rep (A.out.rep HY.out);have c5:=G.out.post (A.out.rep HX.out) (A.out.post HX.out PX.out);have c3:=G.out.post (A.out.rep HY.out) (A.out.post HY.out PY.out);have g5:Hid (Fr B O nv (Value.slice ra E.length f3) nv a8 w (M.alloc (.cells #[.iface tx ux,.int .i64 X.n] 209))):=A.out.trans G.out;have i8:B<=M.heap.size+1:=(by omega);rw [d5] at b2 c5;rw [d8] at b1 c3
  have d1:Hid (∀ (D t:TypeId) (N:Int),((p.k=6/\D=188)\/(p.k=9/\D=192))->max X.n Y.n=N->
    Calls prog 112 #[.pointer (some ⟨O,0,none⟩),.iface D (.pointer (some ⟨M.heap.size+1,0,none⟩)),.int .i64 N] ((M.alloc (.cells #[.iface tx ux,.int .i64 X.n] 209)).alloc (.cells #[.iface tx ux,.iface ty uy] t))
     fun e w'=>e=.returned (.tuple #[])/\Below B w w'/\∃ nv rv b0,cF b0=(.bin p X.T Y.T,max X.n Y.n)::cF r/\Bst B w' O nv rv b0 (bY b0) h/\(bY b0).length=(bY E).length+1):=by
   intro D t N hk hN;have b5:¬ Xof O nv a8 (M.alloc (.cells #[.iface tx ux,.int .i64 X.n] 209)).heap.size:=(by simpa using b7);have d7:=aJ5 b2 b1 b5 D t hk;have gA:(M.alloc (.cells #[.iface tx ux,.int .i64 X.n] 209)).grownBy ((M.alloc (.cells #[.iface tx ux,.int .i64 X.n] 209)).alloc (.cells #[.iface tx ux,.iface ty uy] t)) none:=gWA;have c8:=aI0 (p:=p) b2 b1 c5 c3 D t;have g3:=b4.out.once.new D (M.alloc (.cells #[.iface tx ux,.int .i64 X.n] 209)).heap.size (Nat.le_refl _);have:=jM B _ O nv a8 r (bY E) h ⟨_,.bin p X.T Y.T,N,_⟩ (b4.out.K gA) d7 c8 (fun t b e=>by cases e;exact ⟨⟨b5,_,_,heap_alloc_new _ _⟩,g3⟩) (by simp;omega) d4 g2;simp only [World.size_alloc] at this;refine this.mono ?_;rintro e w' ⟨rfl,g1,g6,J,h1⟩
   have d6:bY (r++[(⟨.iface D (.pointer (some ⟨M.heap.size+1,0,none⟩)),.bin p X.T Y.T,N,X.l++Y.l++[.iface D (.pointer (some ⟨M.heap.size+1,0,none⟩))]⟩:Mk)])=bY E++[.iface D (.pointer (some ⟨M.heap.size+1,0,none⟩))]:=by
    rw [cY,dC,f9.out];simp
   exact ⟨rfl,(g5.out.grown gA hB).bel.trans h1.bel,g1,g6,r++[(⟨.iface D (.pointer (some ⟨M.heap.size+1,0,none⟩)),.bin p X.T Y.T,N,X.l++Y.l++[.iface D (.pointer (some ⟨M.heap.size+1,0,none⟩))]⟩:Mk)],by rw [eJ,hN],by rw [d6];exact J,by rw [d6];simp⟩
  clear b2 b1 c5 c3 b4 A G HX HY PX PY a7 b7;rcases hk with b9 | c4
  ·have e9:(p.k==9)=false:=(by rw [b9];rfl);have HK:Hid (p.k=6):=b9;clear b9
   go_wp2_with fail
   all_goals
    refine (d1.out _ _ _ (.inl ⟨HK.out,rfl⟩) (by omega)).mono ?_;rintro e w4 ⟨rfl,a5,h4⟩;go_wp2;go_ret;refine ⟨a5,?_⟩;rw [HF.out];exact ⟨rfl,h4⟩
  ·have e9:(p.k==9)=true:=(by rw [c4];rfl);have HK:Hid (p.k=9):=c4;clear c4
   go_wp2_with fail
   all_goals
    refine (d1.out _ _ _ (.inr ⟨HK.out,rfl⟩) (by omega)).mono ?_;rintro e w4 ⟨rfl,a5,h4⟩;go_wp2;go_ret;refine ⟨a5,?_⟩;rw [HF.out];exact ⟨rfl,h4⟩
theorem qC (B:Nat) (w:World) (U:Nat) (nv rv:Value) (E:List Mk) (h:Int) (p:Pc) (hS:Bst B w U nv rv E (bY E) h) (hk:(p.k=8/\p.n=0)\/p.k=7) (hB:B<=w.heap.size) (hl:E.length<=1048576) (d0:(bY E).length<=1048576) (hg:∀ x∈E,0<=x.n/\x.n<=4000) :
  Calls prog 115 #[.pointer (some ⟨U,0,none⟩),.int .i64 p.k,.int .i64 p.n] w fun e w'=>fT B w U ((bY E).length+1) (eV h (cF E) p) e w':=by
 have c1:=hS.c1;obtain ⟨ra,d6,d2,g9,f6⟩:=aU hS.row
 by_cases h2:E.length<1
 ·have HF:Hid (eV h (cF E) p=none):=by
   have:=qS E;unfold Hid eV;rcases hst:cF E with _ | ⟨y,r⟩
   ·rfl
   ·rw [hst] at this;simp at this;omega
  subst d2;clear hS f6
  go_enter func115,ntmps115
  go_wp2;go_ret;exact ⟨Below.refl _ _,by rw [HF.out];rfl⟩
 ·obtain ⟨r,X,a6⟩:=aL7 E h2;have b9:r.length<=1048576:=(by rw [a6] at hl;simp at hl;omega);obtain ⟨g2,g8⟩:=hg X (by rw [a6];simp)
  have HF:Hid (eV h (cF E) p=if p.n<0\/4000 - X.n<p.n then none else some (h,(.un p X.T,X.n+p.n)::cF r)):=by
   unfold Hid;rw [a6,eJ];rfl
  have d1:Hid (bY E=bY r++X.l):=(by unfold Hid;rw [a6,cY,dC]);have S:Bst B w U nv rv (r++[X]) (bY E) h:=(by have:=hS;rw [a6] at this ⊢;exact this);have hX:=S.rep X (by simp);obtain ⟨tx,D,d3⟩:=hX.form;have O:=aBU B w U nv rv r (bY E) h X S hB b9;have HX:Hid (Rep (Xof U nv rv) B w X.v X.T):=hX;have PX:Hid (cS w X.v X.T X.l):=S.post X (by simp);rw [d3] at O;subst d2;clear hS S hX a6 hg
  by_cases Y:p.n<0\/4000 - X.n<p.n
  ·have a9:Hid (eV h (cF E) p=none):=(by unfold Hid;rw [HF.out,if_pos Y]);clear HF
   by_cases d8:p.n<0
   ·clear Y
    go_enter func115,ntmps115
    go_wp2_with fail
    refine O.mono ?_;rintro e A ⟨rfl,M,Z,G⟩;have HB:Hid (Below B w (A.alloc (.cells #[.iface tx D,.int .i64 X.n] 209))):=(G.grown gWA hB).bel;clear Z G;go_wp2;go_ret;exact ⟨HB.out,by rw [a9.out];rfl⟩
   ·have f7:4000 - X.n<p.n:=(by omega);clear Y
    go_enter func115,ntmps115
    go_wp2_with fail
    refine O.mono ?_;rintro e A ⟨rfl,M,Z,G⟩;have HB:Hid (Below B w (A.alloc (.cells #[.iface tx D,.int .i64 X.n] 209))):=(G.grown gWA hB).bel;clear Z G;go_wp2;go_ret;exact ⟨HB.out,by rw [a9.out];rfl⟩
  ·have d8:¬ p.n<0:=(by omega);have f7:¬ 4000 - X.n<p.n:=(by omega);have a9:Hid (eV h (cF E) p=some (h,(.un p X.T,X.n+p.n)::cF r)):=(by unfold Hid;rw [HF.out,if_neg Y]);clear HF Y;have HK:=hk;clear hk
   go_enter func115,ntmps115
   go_wp2_with fail
   refine O.mono ?_;rintro e A ⟨rfl,M,Z,G⟩;have g7:=G.bel.size;have b4:Hid (Fr B U nv (Value.slice ra E.length d6) nv M w A):=G;have a5:Hid (Bst B A U nv M r (bY E) h):=Z;have b6:∀ b,A.heap.size<=b->¬ Xof U nv M b:=aCj Z;have a7:Hid (∀ b,A.heap.size<=b->¬ Xof U nv M b):=b6;have c8:=G.rep HX.out;have b8:=G.post HX.out PX.out;rw [d3] at c8 b8;have b3:Hid (cS A (.iface tx D) X.T X.l):=b8;have N:Hid (Rep (Xof U nv M) B A (.iface tx D) X.T):=c8;have gA:Hid (A.grownBy ((A.alloc (.cells #[.iface tx D,.int .i64 X.n] 209)).alloc (.cells #[.iface tx D] 182)) none):=aA gWA gWA;clear Z G b6 c8 O HX PX b8;rcases HK with ⟨c3,d7⟩ | c4
   ·have e8:(p.k==8)=true:=by rw [c3];rfl
    have c2:Calls prog 112 #[.pointer (some ⟨U,0,none⟩),.iface 185 (.pointer (some ⟨A.heap.size+1+1,0,none⟩)),.int .i64 X.n] (((A.alloc (.cells #[.iface tx D,.int .i64 X.n] 209)).alloc (.cells #[.iface tx D] 182)).alloc (.cells #[.iface tx D] 187))
     fun e w'=>e=.returned (.tuple #[])/\Below B w w'/\∃ nv rv J,cF J=(.un p X.T,X.n+p.n)::cF r/\Bst B w' U nv rv J (bY J) h/\(bY J).length=(bY E).length+1:=by
     have b0:=aJz (t:=187) (p:=p) (N.out.K gA.out) (a7.out _ (by simp;omega)) c3;have gB:((A.alloc (.cells #[.iface tx D,.int .i64 X.n] 209)).alloc (.cells #[.iface tx D] 182)).grownBy (((A.alloc (.cells #[.iface tx D,.int .i64 X.n] 209)).alloc (.cells #[.iface tx D] 182)).alloc (.cells #[.iface tx D] 187)) none:=gWA;have a4:=aHc (t:=187) (p:=p) (N.out.K gA.out) (b3.out.K N.out gA.out) 185 (by omega);have c0:=(a5.out.K gA.out).once.new 185 ((A.alloc (.cells #[.iface tx D,.int .i64 X.n] 209)).alloc (.cells #[.iface tx D] 182)).heap.size (Nat.le_refl _);have:=jM B _ U nv M r (bY E) h ⟨_,.un p X.T,X.n,_⟩ ((a5.out.K gA.out).K gB) b0 a4 (fun t b e=>by cases e;exact ⟨⟨a7.out _ (by simp;omega),_,_,heap_alloc_new _ _⟩,c0⟩) (by simp;omega) b9 d0;simp only [World.size_alloc] at this;refine this.mono ?_;rintro e w' ⟨rfl,c6,c7,S,c5⟩
     have b2:bY (r++[(⟨.iface 185 (.pointer (some ⟨A.heap.size+1+1,0,none⟩)),.un p X.T,X.n,X.l++[.iface 185 (.pointer (some ⟨A.heap.size+1+1,0,none⟩))]⟩:Mk)])=bY E++[.iface 185 (.pointer (some ⟨A.heap.size+1+1,0,none⟩))]:=by
      rw [cY,dC,d1.out];simp
     exact ⟨rfl,((b4.out.grown gA.out hB).grown gB hB).bel.trans c5.bel,c6,c7,r++[(⟨.iface 185 (.pointer (some ⟨A.heap.size+1+1,0,none⟩)),.un p X.T,X.n,X.l++[.iface 185 (.pointer (some ⟨A.heap.size+1+1,0,none⟩))]⟩:Mk)],by rw [eJ,d7];simp,by rw [b2];exact S,by rw [b2];simp⟩
    clear c3 N b3 a5 b4 a7 d7
    go_wp2_with fail
    refine c2.mono ?_;rintro e w4 ⟨rfl,b1,h4⟩;go_wp2;go_ret;refine ⟨b1,?_⟩;rw [a9.out];exact ⟨rfl,h4⟩
   ·have e8:(p.k==8)=false:=by rw [c4];rfl
    have c2:Calls prog 112 #[.pointer (some ⟨U,0,none⟩),.iface 180 (.pointer (some ⟨A.heap.size+1+1,0,none⟩)),.int .i64 (X.n+p.n)] (((A.alloc (.cells #[.iface tx D,.int .i64 X.n] 209)).alloc (.cells #[.iface tx D] 182)).alloc (.cells #[.iface tx D,.int .i64 p.n] 184))
     fun e w'=>e=.returned (.tuple #[])/\Below B w w'/\∃ nv rv J,cF J=(.un p X.T,X.n+p.n)::cF r/\Bst B w' U nv rv J (bY J) h/\(bY J).length=(bY E).length+1:=by
     have b0:=aKm (t:=184) (p:=p) (nv:=.int .i64 p.n) (N.out.K gA.out) (a7.out _ (by simp;omega)) c4;have gB:((A.alloc (.cells #[.iface tx D,.int .i64 X.n] 209)).alloc (.cells #[.iface tx D] 182)).grownBy (((A.alloc (.cells #[.iface tx D,.int .i64 X.n] 209)).alloc (.cells #[.iface tx D] 182)).alloc (.cells #[.iface tx D,.int .i64 p.n] 184)) none:=gWA;have a4:=aIF (t:=184) (p:=p) (N.out.K gA.out) (b3.out.K N.out gA.out) 180;have c0:=(a5.out.K gA.out).once.new 180 ((A.alloc (.cells #[.iface tx D,.int .i64 X.n] 209)).alloc (.cells #[.iface tx D] 182)).heap.size (Nat.le_refl _);have:=jM B _ U nv M r (bY E) h ⟨_,.un p X.T,X.n+p.n,_⟩ ((a5.out.K gA.out).K gB) b0 a4 (fun t b e=>by cases e;exact ⟨⟨a7.out _ (by simp;omega),_,_,heap_alloc_new _ _⟩,c0⟩) (by simp;omega) b9 d0;simp only [World.size_alloc] at this;refine this.mono ?_;rintro e w' ⟨rfl,c6,c7,S,c5⟩
     have b2:bY (r++[(⟨.iface 180 (.pointer (some ⟨A.heap.size+1+1,0,none⟩)),.un p X.T,X.n+p.n,X.l++[.iface 180 (.pointer (some ⟨A.heap.size+1+1,0,none⟩))]⟩:Mk)])=bY E++[.iface 180 (.pointer (some ⟨A.heap.size+1+1,0,none⟩))]:=by
      rw [cY,dC,d1.out];simp
     exact ⟨rfl,((b4.out.grown gA.out hB).grown gB hB).bel.trans c5.bel,c6,c7,r++[(⟨.iface 180 (.pointer (some ⟨A.heap.size+1+1,0,none⟩)),.un p X.T,X.n+p.n,X.l++[.iface 180 (.pointer (some ⟨A.heap.size+1+1,0,none⟩))]⟩:Mk)],by rw [eJ],by rw [b2];exact S,by rw [b2];simp⟩
    clear c4 N b3 a5 b4 a7
    go_wp2_with fail
    refine c2.mono ?_;rintro e w4 ⟨rfl,b1,h4⟩;go_wp2;go_ret;refine ⟨b1,?_⟩;rw [a9.out];exact ⟨rfl,h4⟩
end Go.Proofs.YtmfehflibkokbaaGreatDoor
