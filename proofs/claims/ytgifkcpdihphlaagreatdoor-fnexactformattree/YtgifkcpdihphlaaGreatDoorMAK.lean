import Derived.Test.YtgifkcpdihphlaaGreatDoorMAJ
set_option maxHeartbeats 16000000
set_option maxRecDepth 100000
namespace Go.Proofs.YtgifkcpdihphlaaGreatDoor
open Tryz
open Go.RowKit
structure Cx (w:World) (B:Nat) (m:Int):Prop where
 T:Tab w
 M:w.cell? ⟨1,0,none⟩=some (.int .i64 m)
 b:2<=B
 s:B<=w.heap.size
theorem Cx.below {w w':World} {B:Nat} {m:Int} (h:Cx w B m) (j:Below B w w') (u:w.heap.size<=w'.heap.size):Cx w' B m:=
 ⟨h.T.below j (by have:=h.b;omega),(World.cell?_of_block (j.block 1 (by have:=h.b;omega))).trans h.M,h.b,Nat.le_trans h.s u⟩
theorem lB {w w':World} {B h:Nat} (g:w.grownBy w' (some h)) (j:B<=h) (u:B<=w.heap.size):Below B w w':=(Below.refl B w).grown g u (fun k e=>by cases e;exact j)
theorem RdC.below {B k:Nat} {w w':World} {v:Value} {u:List Cm} (h:RdC B w v u) (g:w.grownBy w' (some k)) (y:B<=k):RdC B w' v u:=h.beside g (fun j e=>by cases e;exact y)
theorem fH (h:Nat) (v cv:Value) (u:List Cm) (c r m:Int) (B:Nat) (w:World) (hk:Ck w h v c r) (hx:Cx w B m) (hv:RdC B w cv u) (hB:B<=h) (hn:u.length<=1048576) (ho:aAR u) (hr:0<=r/\r<=1048576) (hc : -1048576<=c/\c<=1048576) :
  Calls prog 80 #[.pointer (some ⟨h,0,none⟩),cv] w fun e w'=>∃ (b:Bool) (c' r':Int),e=.returned (.bool b)/\Ck w' h v c' r'/\mB bG u (c,r)=(if b then some (c',r') else none)/\w.grownBy w' (some h):=by
 obtain ⟨a,cap,d5,_⟩:=id hv;have a2:=hk.c;have b2:=hk.fc;have HK:Hid (Ck (w.setCell ⟨h,1,none⟩ (.int .i64 (c - u.length))) h v (c - u.length) r):=hk.setC _;have HG:Hid (w.grownBy (w.setCell ⟨h,1,none⟩ (.int .i64 (c - u.length))) (some h)):=kN w ⟨h,1,none⟩ _;have HV:=aB (hv.below HG.out hB);have HX:=aB (hx.below (lB HG.out hB hx.s) (by simp));have HO:=aB ho;subst d5;clear hk hv hx ho
 by_cases c4:c - (u.length:Int)<0
 ·have HF:Hid (mB bG u (c,r)=none):=by unfold Hid mB;rw [if_pos c4]
  go_enter func80,ntmps80
  go_wp2;go_ret;exact ⟨false,_,_,rfl,HK.out,HF.out,HG.out⟩
 ·have b5:(u.length:Int)<=c:=by omega
  go_enter func80,ntmps80
  go_wp2;obtain ⟨W1,b1⟩:∃ W1,W1=w.setCell ⟨h,1,none⟩ (.int .i64 (c - u.length)):=⟨_,rfl⟩;rw [<- b1] at HK HG HV HX ⊢;clear b1 a2 b2
  go_loopw [23] (fun i wr=>∃ k:Nat,k<=u.length/\i=.int .i64 k/\Hid ((u.take k).all bG=true)/\Hid (Ck wr h v (c - u.length) (r - bN (u.take k)))/\0<=r - bN (u.take k)/\W1.grownBy wr (some h)) (fun i _=>u.length - (intOf i).toNat)
  case atStart=>exact ⟨0,Nat.zero_le _,rfl,by simp [Hid],by simpa [bN] using HK,by simpa [bN] using hr.1,World.grownBy.refl _ _⟩
  case round=>
   obtain ⟨k,hk,rfl,HA,J,d2,D⟩:=hrel;have a8:=aB D;have a7:=aB (HX.out.below (lB D hB HX.out.s) D.size);have g5:=bB (u.take k)
   by_cases L:k<u.length
   ·obtain ⟨b,off,f3,tv,d4,hb,hp⟩:=(HV.out.below D hB).at k L;cases d4;have z0:=hp.k;have z1:=hp.t;obtain ⟨l1,l2⟩:=HO.out u[k] (List.getElem_mem L);have Y:=xQ u k L;have a4:=aC1 u (k+1);have g1:=J.out.lt;have gA:=World.grownBy_alloc wr (Obj.cells #[.bool u[k].b,tv] 81) none;have HT:=aB (pI h v none u[k].t.length 0 (c - u.length) (r - bN (u.take k)) _ (J.out.K gA) l1 (by omega));obtain ⟨ta,N,b0,s1,s2⟩:=id hp.sl;have E:=aB (pI h v ta u[k].t.length N (c - u.length) (r - bN (u.take k)) _ (J.out.K gA) l1 (by omega));have X:=aB gA;have HP:=aB hp;have g6:(k:Int)<u.length:=(by omega);clear HT gA hp D
    by_cases y:(u[k].t.length:Int)<=r - bN (u.take k)
    ·rw [decide_eq_true y] at E
     have S:Hid (∀ H:World,(wr.alloc (Obj.cells #[.bool u[k].b,tv] 81)).grownBy H (some h)->Calls prog 114 #[.agg #[.bool u[k].b,tv]] H fun e w'=>e=.returned (.bool (bG u[k]))/\H.grownBy w' none):=fun H A=>by
      have X2:=(a7.out.below (aO X.out |>.mono a7.out.s) X.out.size).below (lB A hB (Nat.le_trans a7.out.s X.out.size)) A.size;exact aBv tv u[k] m H ((((HP.out.rd.K X.out).beside A (fun j e=>by cases e;exact hB))).wideC X2.s) l2 l1 HP.out.sl X2.T X2.M
     subst b0;cases G:bG u[k] with
     | true=>
       have HN:=aB (wS bG u k L HA.out G);have b8:r - bN (u.take k) - (u[k].t.length:Int)=r - bN (u.take (k+1)):=(by omega);rw [G] at S;rw [b8] at E;have b7:0<=r - bN (u.take (k+1)):=(by omega);clear G b8 Y a4 y l2;generalize u[k]=p at *
       go_wp2_with fail
       refine E.out.mono ?_;rintro e H ⟨rfl,U,A⟩;have q0:H.cell? ⟨wr.heap.size,0,none⟩=some (.bool p.b):=A.cell (by simp [go_sem]) (by simp;omega);have q1:H.cell? ⟨wr.heap.size,1,none⟩=some (.slice ta p.t.length N):=A.cell (by simp [go_sem]) (by simp;omega);have K2:=aB U;have O:=aB A;clear U A
       go_wp2_with fail
       refine (S.out _ O.out).mono ?_;rintro e w3 ⟨rfl,Z⟩;have K3:=aB (K2.out.K Z);have G3:=aB (aS a8.out (aS (eJ X.out _) (aS O.out (eJ Z _))));clear Z;go_wp2
       go_roundw
       case rel=>exact ⟨k+1,by omega,by go_num,HN,K3,b7,G3.out⟩
       case measure=>simp [intOf];omega
     | false=>
       have HF:Hid (mB bG u (c,r)=none):=by
        unfold Hid;rw [mF bG u c r hr.1,if_neg];rintro ⟨_,h2,_⟩;rw [aAS bG u k L G] at h2;cases h2
       rw [G] at S;clear G Y a4 y l2;generalize u[k]=p at *
       go_wp2_with fail
       refine E.out.mono ?_;rintro e H ⟨rfl,U,A⟩;have q0:H.cell? ⟨wr.heap.size,0,none⟩=some (.bool p.b):=A.cell (by simp [go_sem]) (by simp;omega);have q1:H.cell? ⟨wr.heap.size,1,none⟩=some (.slice ta p.t.length N):=A.cell (by simp [go_sem]) (by simp;omega);have K2:=aB U;have O:=aB A;clear U A
       go_wp2_with fail
       refine (S.out _ O.out).mono ?_;rintro e w3 ⟨rfl,Z⟩;have K3:=aB (K2.out.K Z);have G3:=aB (aS HG.out (aS a8.out (aS (eJ X.out _) (aS O.out (eJ Z _)))));clear Z;go_wp2;go_ret;exact ⟨false,_,_,rfl,K3.out,HF.out,G3.out⟩
    ·have HF:Hid (mB bG u (c,r)=none):=by
      unfold Hid;rw [mF bG u c r hr.1,if_neg];rintro ⟨_,_,h3⟩;omega
     rw [decide_eq_false y] at E;subst b0;clear Y a4 y l2;generalize u[k]=p at *
     go_wp2_with fail
     refine E.out.mono ?_;rintro e H ⟨rfl,U,A⟩;have K2:=aB U;have O:=aB (aS HG.out (aS a8.out (aS (eJ X.out _) A)));clear U A;go_wp2;go_ret;exact ⟨false,_,_,rfl,K2.out,HF.out,O.out⟩
   ·have d3:k=u.length:=(by omega);subst d3;rw [List.take_length] at HA J d2
    have HF:Hid (mB bG u (c,r)=some (c - u.length,r - bN u)):=by
     unfold Hid;rw [mF bG u c r hr.1,if_pos ⟨b5,HA.out,by omega⟩]
    have O:=aB (aS HG.out D);clear D;go_wp2;go_ret;exact ⟨true,_,_,rfl,J.out,HF.out,O.out⟩
theorem yP {c:Int} (j:0<=c) (u:c<=255):Bys [c]:=fun z h=>by simp at h;omega
theorem y48 {sb:Nat} {w0 w:World} {r:List Int} (h:St sb w0 w ([48]++r)) :
  Calls prog 165 #[.pointer (some ⟨sb,0,none⟩),.string { data:=#[48] }] w fun e w'=>e=.returned (.bool true)/\St sb w0 w' r:=eW [48] r (yP (by omega) (by omega)) (by simp) h
theorem n48 {sb:Nat} {w0 w:World} {s:List Int} (j:¬ [48] <+: s) (h:St sb w0 w s) :
  Calls prog 165 #[.pointer (some ⟨sb,0,none⟩),.string { data:=#[48] }] w fun e w'=>e=.returned (.bool false)/\St sb w0 w' s:=gJ [48] s (yP (by omega) (by omega)) (by simp) j h
theorem y46 {sb:Nat} {w0 w:World} {r:List Int} (h:St sb w0 w ([46]++r)) :
  Calls prog 165 #[.pointer (some ⟨sb,0,none⟩),.string { data:=#[46] }] w fun e w'=>e=.returned (.bool true)/\St sb w0 w' r:=eW [46] r (yP (by omega) (by omega)) (by simp) h
theorem n46 {sb:Nat} {w0 w:World} {s:List Int} (j:¬ [46] <+: s) (h:St sb w0 w s) :
  Calls prog 165 #[.pointer (some ⟨sb,0,none⟩),.string { data:=#[46] }] w fun e w'=>e=.returned (.bool false)/\St sb w0 w' s:=gJ [46] s (yP (by omega) (by omega)) (by simp) j h
theorem aJA {sb:Nat} {w0 w:World} {r:List Int} (h:St sb w0 w ([101]++r)) :
  Calls prog 165 #[.pointer (some ⟨sb,0,none⟩),.string { data:=#[101] }] w fun e w'=>e=.returned (.bool true)/\St sb w0 w' r:=eW [101] r (yP (by omega) (by omega)) (by simp) h
theorem aJu {sb:Nat} {w0 w:World} {s:List Int} (j:¬ [101] <+: s) (h:St sb w0 w s) :
  Calls prog 165 #[.pointer (some ⟨sb,0,none⟩),.string { data:=#[101] }] w fun e w'=>e=.returned (.bool false)/\St sb w0 w' s:=gJ [101] s (yP (by omega) (by omega)) (by simp) j h
theorem y69 {sb:Nat} {w0 w:World} {r:List Int} (h:St sb w0 w ([69]++r)) :
  Calls prog 165 #[.pointer (some ⟨sb,0,none⟩),.string { data:=#[69] }] w fun e w'=>e=.returned (.bool true)/\St sb w0 w' r:=eW [69] r (yP (by omega) (by omega)) (by simp) h
theorem n69 {sb:Nat} {w0 w:World} {s:List Int} (j:¬ [69] <+: s) (h:St sb w0 w s) :
  Calls prog 165 #[.pointer (some ⟨sb,0,none⟩),.string { data:=#[69] }] w fun e w'=>e=.returned (.bool false)/\St sb w0 w' s:=gJ [69] s (yP (by omega) (by omega)) (by simp) j h
theorem y43 {sb:Nat} {w0 w:World} {r:List Int} (h:St sb w0 w ([43]++r)) :
  Calls prog 165 #[.pointer (some ⟨sb,0,none⟩),.string { data:=#[43] }] w fun e w'=>e=.returned (.bool true)/\St sb w0 w' r:=eW [43] r (yP (by omega) (by omega)) (by simp) h
theorem n43 {sb:Nat} {w0 w:World} {s:List Int} (j:¬ [43] <+: s) (h:St sb w0 w s) :
  Calls prog 165 #[.pointer (some ⟨sb,0,none⟩),.string { data:=#[43] }] w fun e w'=>e=.returned (.bool false)/\St sb w0 w' s:=gJ [43] s (yP (by omega) (by omega)) (by simp) j h
theorem y45 {sb:Nat} {w0 w:World} {r:List Int} (h:St sb w0 w ([45]++r)) :
  Calls prog 165 #[.pointer (some ⟨sb,0,none⟩),.string { data:=#[45] }] w fun e w'=>e=.returned (.bool true)/\St sb w0 w' r:=eW [45] r (yP (by omega) (by omega)) (by simp) h
theorem n45 {sb:Nat} {w0 w:World} {s:List Int} (j:¬ [45] <+: s) (h:St sb w0 w s) :
  Calls prog 165 #[.pointer (some ⟨sb,0,none⟩),.string { data:=#[45] }] w fun e w'=>e=.returned (.bool false)/\St sb w0 w' s:=gJ [45] s (yP (by omega) (by omega)) (by simp) j h
theorem skd {sb:Nat} {w0 w:World} {s:List Int} (t:List Int) (b:Bool) (u:s.dropWhile aK=t) (j:dV aK s=b) (h:St sb w0 w s) :
  Calls prog 166 #[.pointer (some ⟨sb,0,none⟩),.func (.func 180) #[] #[]] w fun e w'=>e=.returned (.bool b)/\St sb w0 w' t:=by
 rw [<- u,<- j];exact aGC _ aK aEZ aKN s h
theorem aAk {sb:Nat} {w0 w:World} (s L H:List Int) (M:Bool) (G:Hid (L.dropWhile aK=H)) (J:Hid (dV aK L=M)) (S:Hid (gL s=iN (true,H))) (h:St sb w0 w ([48]++([46]++L))) :
  Calls prog 168 #[.pointer (some ⟨sb,0,none⟩)] w fun e w'=>e=.returned (.bool (gL s).1)/\St sb w0 w' (gL s).2:=by
 have N:∀ (x:Bool) (w:World),(Op.unary .not (.bool x)).run prog w=.ok (.bool (!x)) w:=fun _ _=>rfl;cases M
 all_goals
  go_enter func168,ntmps168
  go_wp2_with fail
  refine (y48 h).mono ?_;rintro e w' ⟨rfl,h⟩
  go_wp2_with fail
  refine (y46 h).mono ?_;rintro e w' ⟨rfl,h⟩
  go_wp2_with fail
  refine (skd _ _ G.out J.out h).mono ?_;rintro e w' ⟨rfl,h⟩;rcases aI4 H with ⟨O,rfl,u⟩ | ⟨O,rfl,y,u⟩ | ⟨y,D,u⟩
  all_goals try rcases tF O with ⟨t,rfl,E⟩ | ⟨t,rfl,j,E⟩ | ⟨j,A,E⟩
  all_goals
   try rw [E] at u
   replace u:=aB (S.out.trans u)
   try clear E
   try replace y:=aB y
   try replace D:=aB D
   try replace j:=aB j
   try replace A:=aB A
   go_wp2_with fail
   first
    | (refine (aJA h).mono ?_;rintro e w' ⟨rfl,h⟩)
    | (refine (aJu y.out h).mono ?_;rintro e w' ⟨rfl,h⟩;go_wp2_with fail
       first
        | (refine (y69 h).mono ?_;rintro e w' ⟨rfl,h⟩)
        | (refine (n69 D.out h).mono ?_;rintro e w' ⟨rfl,h⟩;go_wp2;go_ret;exact ⟨by rw [u.out];rfl,by rw [u.out];exact h⟩))
  all_goals
   go_wp2_with fail
   first
    | (refine (y43 h).mono ?_;rintro e w' ⟨rfl,h⟩)
    | (refine (n43 j.out h).mono ?_;rintro e w' ⟨rfl,h⟩;go_wp2_with fail
       first
        | (refine (y45 h).mono ?_;rintro e w' ⟨rfl,h⟩)
        | (refine (n45 A.out h).mono ?_;rintro e w' ⟨rfl,h⟩))
   go_wp2_with fail
   refine (skd _ _ rfl rfl h).mono ?_;rintro e w' ⟨rfl,h⟩;go_wp2;go_ret;exact ⟨by rw [u.out];rfl,by rw [u.out];exact h⟩
theorem aAh {sb:Nat} {w0 w:World} (s r:List Int) (G:Hid (¬ [46] <+: r)) (L:Hid (gL s=iN (true,r))) (h:St sb w0 w ([48]++r)) :
  Calls prog 168 #[.pointer (some ⟨sb,0,none⟩)] w fun e w'=>e=.returned (.bool (gL s).1)/\St sb w0 w' (gL s).2:=by
 have H:∀ (x:Bool) (w:World),(Op.unary .not (.bool x)).run prog w=.ok (.bool (!x)) w:=fun _ _=>rfl
 go_enter func168,ntmps168
 go_wp2_with fail
 refine (y48 h).mono ?_;rintro e w' ⟨rfl,h⟩
 go_wp2_with fail
 refine (n46 G.out h).mono ?_;rintro e w' ⟨rfl,h⟩;rcases aI4 r with ⟨J,rfl,u⟩ | ⟨J,rfl,y,u⟩ | ⟨y,D,u⟩
 all_goals try rcases tF J with ⟨t,rfl,E⟩ | ⟨t,rfl,j,E⟩ | ⟨j,A,E⟩
 all_goals
  try rw [E] at u
  replace u:=aB (L.out.trans u)
  try clear E
  try replace y:=aB y
  try replace D:=aB D
  try replace j:=aB j
  try replace A:=aB A
  go_wp2_with fail
  first
   | (refine (aJA h).mono ?_;rintro e w' ⟨rfl,h⟩)
   | (refine (aJu y.out h).mono ?_;rintro e w' ⟨rfl,h⟩;go_wp2_with fail
      first
       | (refine (y69 h).mono ?_;rintro e w' ⟨rfl,h⟩)
       | (refine (n69 D.out h).mono ?_;rintro e w' ⟨rfl,h⟩;go_wp2;go_ret;exact ⟨by rw [u.out];rfl,by rw [u.out];exact h⟩))
 all_goals
  go_wp2_with fail
  first
   | (refine (y43 h).mono ?_;rintro e w' ⟨rfl,h⟩)
   | (refine (n43 j.out h).mono ?_;rintro e w' ⟨rfl,h⟩;go_wp2_with fail
      first
       | (refine (y45 h).mono ?_;rintro e w' ⟨rfl,h⟩)
       | (refine (n45 A.out h).mono ?_;rintro e w' ⟨rfl,h⟩))
  go_wp2_with fail
  refine (skd _ _ rfl rfl h).mono ?_;rintro e w' ⟨rfl,h⟩;go_wp2;go_ret;exact ⟨by rw [u.out];rfl,by rw [u.out];exact h⟩
theorem zQ {sb:Nat} {w0 w:World} (s M H:List Int) (O:Bool) (L:Hid (¬ [48] <+: s)) (N:Hid (s.dropWhile aK=[46]++M)) (X:Hid (dV aK s=true)) (G:Hid (M.dropWhile aK=H)) (J:Hid (dV aK M=O)) (Y:Hid (gL s=iN (true,H))) (h:St sb w0 w s) :
  Calls prog 168 #[.pointer (some ⟨sb,0,none⟩)] w fun e w'=>e=.returned (.bool (gL s).1)/\St sb w0 w' (gL s).2:=by
 have S:∀ (x:Bool) (w:World),(Op.unary .not (.bool x)).run prog w=.ok (.bool (!x)) w:=fun _ _=>rfl;cases O
 all_goals
  go_enter func168,ntmps168
  go_wp2_with fail
  refine (n48 L.out h).mono ?_;rintro e w' ⟨rfl,h⟩
  go_wp2_with fail
  refine (skd _ _ N.out X.out h).mono ?_;rintro e w' ⟨rfl,h⟩
  go_wp2_with fail
  refine (y46 h).mono ?_;rintro e w' ⟨rfl,h⟩
  go_wp2_with fail
  refine (skd _ _ G.out J.out h).mono ?_;rintro e w' ⟨rfl,h⟩;rcases aI4 H with ⟨U,rfl,u⟩ | ⟨U,rfl,y,u⟩ | ⟨y,D,u⟩
  all_goals try rcases tF U with ⟨t,rfl,E⟩ | ⟨t,rfl,j,E⟩ | ⟨j,A,E⟩
  all_goals
   try rw [E] at u
   replace u:=aB (Y.out.trans u)
   try clear E
   try replace y:=aB y
   try replace D:=aB D
   try replace j:=aB j
   try replace A:=aB A
   go_wp2_with fail
   first
    | (refine (aJA h).mono ?_;rintro e w' ⟨rfl,h⟩)
    | (refine (aJu y.out h).mono ?_;rintro e w' ⟨rfl,h⟩;go_wp2_with fail
       first
        | (refine (y69 h).mono ?_;rintro e w' ⟨rfl,h⟩)
        | (refine (n69 D.out h).mono ?_;rintro e w' ⟨rfl,h⟩;go_wp2;go_ret;exact ⟨by rw [u.out];rfl,by rw [u.out];exact h⟩))
  all_goals
   go_wp2_with fail
   first
    | (refine (y43 h).mono ?_;rintro e w' ⟨rfl,h⟩)
    | (refine (n43 j.out h).mono ?_;rintro e w' ⟨rfl,h⟩;go_wp2_with fail
       first
        | (refine (y45 h).mono ?_;rintro e w' ⟨rfl,h⟩)
        | (refine (n45 A.out h).mono ?_;rintro e w' ⟨rfl,h⟩))
   go_wp2_with fail
   refine (skd _ _ rfl rfl h).mono ?_;rintro e w' ⟨rfl,h⟩;go_wp2;go_ret;exact ⟨by rw [u.out];rfl,by rw [u.out];exact h⟩
theorem aAw {sb:Nat} {w0 w:World} (s G:List Int) (J:Hid (¬ [48] <+: s)) (L:Hid (s.dropWhile aK=G)) (O:Hid (dV aK s=true)) (H:Hid (¬ [46] <+: G)) (S:Hid (gL s=iN (true,G))) (h:St sb w0 w s) :
  Calls prog 168 #[.pointer (some ⟨sb,0,none⟩)] w fun e w'=>e=.returned (.bool (gL s).1)/\St sb w0 w' (gL s).2:=by
 have M:∀ (x:Bool) (w:World),(Op.unary .not (.bool x)).run prog w=.ok (.bool (!x)) w:=fun _ _=>rfl
 go_enter func168,ntmps168
 go_wp2_with fail
 refine (n48 J.out h).mono ?_;rintro e w' ⟨rfl,h⟩
 go_wp2_with fail
 refine (skd _ _ L.out O.out h).mono ?_;rintro e w' ⟨rfl,h⟩
 go_wp2_with fail
 refine (n46 H.out h).mono ?_;rintro e w' ⟨rfl,h⟩;rcases aI4 G with ⟨N,rfl,u⟩ | ⟨N,rfl,y,u⟩ | ⟨y,D,u⟩
 all_goals try rcases tF N with ⟨t,rfl,E⟩ | ⟨t,rfl,j,E⟩ | ⟨j,A,E⟩
 all_goals
  try rw [E] at u
  replace u:=aB (S.out.trans u)
  try clear E
  try replace y:=aB y
  try replace D:=aB D
  try replace j:=aB j
  try replace A:=aB A
  go_wp2_with fail
  first
   | (refine (aJA h).mono ?_;rintro e w' ⟨rfl,h⟩)
   | (refine (aJu y.out h).mono ?_;rintro e w' ⟨rfl,h⟩;go_wp2_with fail
      first
       | (refine (y69 h).mono ?_;rintro e w' ⟨rfl,h⟩)
       | (refine (n69 D.out h).mono ?_;rintro e w' ⟨rfl,h⟩;go_wp2;go_ret;exact ⟨by rw [u.out];rfl,by rw [u.out];exact h⟩))
 all_goals
  go_wp2_with fail
  first
   | (refine (y43 h).mono ?_;rintro e w' ⟨rfl,h⟩)
   | (refine (n43 j.out h).mono ?_;rintro e w' ⟨rfl,h⟩;go_wp2_with fail
      first
       | (refine (y45 h).mono ?_;rintro e w' ⟨rfl,h⟩)
       | (refine (n45 A.out h).mono ?_;rintro e w' ⟨rfl,h⟩))
  go_wp2_with fail
  refine (skd _ _ rfl rfl h).mono ?_;rintro e w' ⟨rfl,h⟩;go_wp2;go_ret;exact ⟨by rw [u.out];rfl,by rw [u.out];exact h⟩
theorem zT {sb:Nat} {w0 w:World} (s M H:List Int) (L:Hid (¬ [48] <+: s)) (N:Hid (s.dropWhile aK=[46]++M)) (U:Hid (dV aK s=false)) (G:Hid (M.dropWhile aK=H)) (J:Hid (dV aK M=true)) (X:Hid (gL s=iN (true,H))) (h:St sb w0 w s) :
  Calls prog 168 #[.pointer (some ⟨sb,0,none⟩)] w fun e w'=>e=.returned (.bool (gL s).1)/\St sb w0 w' (gL s).2:=by
 have O:∀ (x:Bool) (w:World),(Op.unary .not (.bool x)).run prog w=.ok (.bool (!x)) w:=fun _ _=>rfl
 go_enter func168,ntmps168
 go_wp2_with fail
 refine (n48 L.out h).mono ?_;rintro e w' ⟨rfl,h⟩
 go_wp2_with fail
 refine (skd _ _ N.out U.out h).mono ?_;rintro e w' ⟨rfl,h⟩
 go_wp2_with fail
 refine (y46 h).mono ?_;rintro e w' ⟨rfl,h⟩
 go_wp2_with fail
 refine (skd _ _ G.out J.out h).mono ?_;rintro e w' ⟨rfl,h⟩;rcases aI4 H with ⟨S,rfl,u⟩ | ⟨S,rfl,y,u⟩ | ⟨y,D,u⟩
 all_goals try rcases tF S with ⟨t,rfl,E⟩ | ⟨t,rfl,j,E⟩ | ⟨j,A,E⟩
 all_goals
  try rw [E] at u
  replace u:=aB (X.out.trans u)
  try clear E
  try replace y:=aB y
  try replace D:=aB D
  try replace j:=aB j
  try replace A:=aB A
  go_wp2_with fail
  first
   | (refine (aJA h).mono ?_;rintro e w' ⟨rfl,h⟩)
   | (refine (aJu y.out h).mono ?_;rintro e w' ⟨rfl,h⟩;go_wp2_with fail
      first
       | (refine (y69 h).mono ?_;rintro e w' ⟨rfl,h⟩)
       | (refine (n69 D.out h).mono ?_;rintro e w' ⟨rfl,h⟩;go_wp2;go_ret;exact ⟨by rw [u.out];rfl,by rw [u.out];exact h⟩))
 all_goals
  go_wp2_with fail
  first
   | (refine (y43 h).mono ?_;rintro e w' ⟨rfl,h⟩)
   | (refine (n43 j.out h).mono ?_;rintro e w' ⟨rfl,h⟩;go_wp2_with fail
      first
       | (refine (y45 h).mono ?_;rintro e w' ⟨rfl,h⟩)
       | (refine (n45 A.out h).mono ?_;rintro e w' ⟨rfl,h⟩))
  go_wp2_with fail
  refine (skd _ _ rfl rfl h).mono ?_;rintro e w' ⟨rfl,h⟩;go_wp2;go_ret;exact ⟨by rw [u.out];rfl,by rw [u.out];exact h⟩
theorem zU {sb:Nat} {w0 w:World} (s A E:List Int) (y:Hid (¬ [48] <+: s)) (D:Hid (s.dropWhile aK=[46]++A)) (J:Hid (dV aK s=false)) (j:Hid (A.dropWhile aK=E)) (u:Hid (dV aK A=false)) (G:Hid (gL s=(false,E))) (h:St sb w0 w s) :
  Calls prog 168 #[.pointer (some ⟨sb,0,none⟩)] w fun e w'=>e=.returned (.bool (gL s).1)/\St sb w0 w' (gL s).2:=by
 have H:∀ (x:Bool) (w:World),(Op.unary .not (.bool x)).run prog w=.ok (.bool (!x)) w:=fun _ _=>rfl
 go_enter func168,ntmps168
 go_wp2_with fail
 refine (n48 y.out h).mono ?_;rintro e w' ⟨rfl,h⟩
 go_wp2_with fail
 refine (skd _ _ D.out J.out h).mono ?_;rintro e w' ⟨rfl,h⟩
 go_wp2_with fail
 refine (y46 h).mono ?_;rintro e w' ⟨rfl,h⟩
 go_wp2_with fail
 refine (skd _ _ j.out u.out h).mono ?_;rintro e w' ⟨rfl,h⟩;go_wp2;go_ret;exact ⟨by rw [G.out];rfl,by rw [G.out];exact h⟩
theorem zM {sb:Nat} {w0 w:World} (s:List Int) (u:Hid (¬ [48] <+: s)) (y:Hid (s.dropWhile aK=s)) (E:Hid (dV aK s=false)) (j:Hid (¬ [46] <+: s)) (D:Hid (gL s=(false,s))) (h:St sb w0 w s) :
  Calls prog 168 #[.pointer (some ⟨sb,0,none⟩)] w fun e w'=>e=.returned (.bool (gL s).1)/\St sb w0 w' (gL s).2:=by
 have A:∀ (x:Bool) (w:World),(Op.unary .not (.bool x)).run prog w=.ok (.bool (!x)) w:=fun _ _=>rfl
 go_enter func168,ntmps168
 go_wp2_with fail
 refine (n48 u.out h).mono ?_;rintro e w' ⟨rfl,h⟩
 go_wp2_with fail
 refine (skd _ _ y.out E.out h).mono ?_;rintro e w' ⟨rfl,h⟩
 go_wp2_with fail
 refine (n46 j.out h).mono ?_;rintro e w' ⟨rfl,h⟩;go_wp2;go_ret;exact ⟨by rw [D.out];rfl,by rw [D.out];exact h⟩
theorem mM {sb:Nat} {w0 w:World} (s:List Int) (h:St sb w0 w s) :
  Calls prog 168 #[.pointer (some ⟨sb,0,none⟩)] w fun e w'=>e=.returned (.bool (gL s).1)/\St sb w0 w' (gL s).2:=by
 rcases aLJ s with ⟨r,M,A⟩ | ⟨N,L,H,A⟩
 ·rcases aId true r with ⟨G,J,rfl,u,y⟩ | ⟨j,y⟩
  ·exact aAk s G J _ u rfl (by rw [Hid,gL,A,y];simp) (M ▸ h)
  ·exact aAh s r j (by rw [Hid,gL,A,y]) (M ▸ h)
 ·cases D:dV aK s
  ·have e:s.dropWhile aK=s:=by
    cases s with
    | nil=>rfl
    | cons c r=>simp only [dV] at D;simp [D]
   rw [<- H,e,D] at A;rcases aId false s with ⟨G,J,M,u,y⟩ | ⟨j,y⟩
   ·cases E:dV aK G
    ·exact zU s G J L (by rw [Hid,e,<- M]) D u E (by rw [Hid,gL,A,y,E];rfl) h
    ·exact zT s G J L (by rw [Hid,e,<- M]) D u E (by rw [Hid,gL,A,y,E];rfl) h
   ·exact zM s L e D j (by rw [Hid,gL,A,y];rfl) h
  ·rw [D] at A;rcases aId true N with ⟨G,J,rfl,u,y⟩ | ⟨j,y⟩
   ·exact zQ s G J _ L H D u rfl (by rw [Hid,gL,A,y];simp) h
   ·exact aAw s N L H D j (by rw [Hid,gL,A,y]) h
theorem aDv (p:Int) (w:World):Calls prog 187 #[.int .i32 p] w fun e w'=>e=.returned (.int .i64 (jK p))/\w=w':=by
 cases h:aK p
 ·by_cases u:97<=p
  ·by_cases E:p<=102
   ·have j:Hid (jK p=p - 97+10):=by simp [Hid,jK,h,u,E]
    go_enter func187,ntmps187
    go_wp2_with (go_at_call 180;refine (fP _ _).mono ?_;rintro e w' ⟨rfl,rfl⟩;rw [h])
    go_ret;exact ⟨by rw [j.out];first | rfl | (congr 2;go_num),rfl⟩
   ·have y:¬ p<=70:=(by omega);have j:Hid (jK p = -1):=(by simp [Hid,jK,h,u,E];omega);have A:65<=p:=by omega
    go_enter func187,ntmps187
    go_wp2_with (go_at_call 180;refine (fP _ _).mono ?_;rintro e w' ⟨rfl,rfl⟩;rw [h])
    go_ret;exact ⟨by rw [j.out];rfl,rfl⟩
  ·by_cases y:65<=p
   ·by_cases A:p<=70
    ·have j:Hid (jK p=p - 65+10):=by simp [Hid,jK,h,u,y,A]
     go_enter func187,ntmps187
     go_wp2_with (go_at_call 180;refine (fP _ _).mono ?_;rintro e w' ⟨rfl,rfl⟩;rw [h])
     go_ret;exact ⟨by rw [j.out];first | rfl | (congr 2;go_num),rfl⟩
    ·have j:Hid (jK p = -1):=by simp [Hid,jK,h,u,y,A]
     go_enter func187,ntmps187
     go_wp2_with (go_at_call 180;refine (fP _ _).mono ?_;rintro e w' ⟨rfl,rfl⟩;rw [h])
     go_ret;exact ⟨by rw [j.out];rfl,rfl⟩
   ·have j:Hid (jK p = -1):=by simp [Hid,jK,h,u,y]
    go_enter func187,ntmps187
    go_wp2_with (go_at_call 180;refine (fP _ _).mono ?_;rintro e w' ⟨rfl,rfl⟩;rw [h])
    go_ret;exact ⟨by rw [j.out];rfl,rfl⟩
 ·have j:Hid (jK p=p - 48):=(by simp [Hid,jK,h]);have D:48<=p/\p<=57:=(by simpa [aK] using h);obtain ⟨H,G⟩:=D
  go_enter func187,ntmps187
  go_wp2_with (go_at_call 180;refine (fP _ _).mono ?_;rintro e w' ⟨rfl,rfl⟩;rw [h])
  go_ret;exact ⟨by rw [j.out];first | rfl | (congr 2;go_num),rfl⟩
theorem zO (p:Int) (w:World):Calls prog 167 #[.int .i32 p] w fun e w'=>e=.returned (.bool (eK p))/\w=w':=by
 go_enter func167,ntmps167
 go_wp2_with (go_at_call 187;refine (aDv _ _).mono ?_;rintro e w' ⟨rfl,rfl⟩)
 go_ret;exact ⟨rfl,rfl⟩
theorem aHW:aK7 167 eK:=⟨fun p W=>zO p W,fun args W=>by kernel_rfl⟩
theorem aKM:Asc eK:=fun p h=>by
 have h:0<=jK p:=of_decide_eq_true h;unfold jK at h
 split at h
 ·rename_i hd;simp [aK] at hd;omega
 ·split at h
  ·omega
  ·split at h
   ·omega
   ·omega
theorem rD {l:List Int} (h:l.all (fun z=>decide (0<=z/\z<=255))=true):Bys l:=fun z j=>by
 have:=List.all_eq_true.1 h z j;simpa using this
theorem aMq {sb:Nat} {w0 w:World} {r:List Int} (h:St sb w0 w ([73,110,102,105,110,105,116,121]++r)) :
  Calls prog 165 #[.pointer (some ⟨sb,0,none⟩),.string { data:=#[73,110,102,105,110,105,116,121] }] w fun e w'=>e=.returned (.bool true)/\St sb w0 w' r:=eW [73,110,102,105,110,105,116,121] r (rD (by decide)) (by simp) h
theorem yJ {sb:Nat} {w0 w:World} {s:List Int} (j:¬ [73,110,102,105,110,105,116,121] <+: s) (h:St sb w0 w s) :
  Calls prog 165 #[.pointer (some ⟨sb,0,none⟩),.string { data:=#[73,110,102,105,110,105,116,121] }] w fun e w'=>e=.returned (.bool false)/\St sb w0 w' s:=gJ [73,110,102,105,110,105,116,121] s (rD (by decide)) (by simp) j h
theorem aLK {sb:Nat} {w0 w:World} {r:List Int} (h:St sb w0 w ([78,97,78]++r)) :
  Calls prog 165 #[.pointer (some ⟨sb,0,none⟩),.string { data:=#[78,97,78] }] w fun e w'=>e=.returned (.bool true)/\St sb w0 w' r:=eW [78,97,78] r (rD (by decide)) (by simp) h
theorem aCE {sb:Nat} {w0 w:World} {s:List Int} (j:¬ [78,97,78] <+: s) (h:St sb w0 w s) :
  Calls prog 165 #[.pointer (some ⟨sb,0,none⟩),.string { data:=#[78,97,78] }] w fun e w'=>e=.returned (.bool false)/\St sb w0 w' s:=gJ [78,97,78] s (rD (by decide)) (by simp) j h
theorem yx {sb:Nat} {w0 w:World} {r:List Int} (h:St sb w0 w ([48,120]++r)) :
  Calls prog 165 #[.pointer (some ⟨sb,0,none⟩),.string { data:=#[48,120] }] w fun e w'=>e=.returned (.bool true)/\St sb w0 w' r:=eW [48,120] r (rD (by decide)) (by simp) h
theorem nx {sb:Nat} {w0 w:World} {s:List Int} (j:¬ [48,120] <+: s) (h:St sb w0 w s) :
  Calls prog 165 #[.pointer (some ⟨sb,0,none⟩),.string { data:=#[48,120] }] w fun e w'=>e=.returned (.bool false)/\St sb w0 w' s:=gJ [48,120] s (rD (by decide)) (by simp) j h
theorem yX {sb:Nat} {w0 w:World} {r:List Int} (h:St sb w0 w ([48,88]++r)) :
  Calls prog 165 #[.pointer (some ⟨sb,0,none⟩),.string { data:=#[48,88] }] w fun e w'=>e=.returned (.bool true)/\St sb w0 w' r:=eW [48,88] r (rD (by decide)) (by simp) h
theorem nX {sb:Nat} {w0 w:World} {s:List Int} (j:¬ [48,88] <+: s) (h:St sb w0 w s) :
  Calls prog 165 #[.pointer (some ⟨sb,0,none⟩),.string { data:=#[48,88] }] w fun e w'=>e=.returned (.bool false)/\St sb w0 w' s:=gJ [48,88] s (rD (by decide)) (by simp) j h
theorem skh {sb:Nat} {w0 w:World} {s:List Int} (h:St sb w0 w s) :
  Calls prog 166 #[.pointer (some ⟨sb,0,none⟩),.func (.func 167) #[] #[]] w fun e w'=>e=.returned (.bool (dV eK s))/\St sb w0 w' (s.dropWhile eK):=aGC _ eK aHW aKM s h
theorem aLV (s:List Int):(∃ r,s=[73,110,102,105,110,105,116,121]++r/\kV s=(true,r))\/
  (¬ [73,110,102,105,110,105,116,121] <+: s/\∃ r,s=[78,97,78]++r/\kV s=(true,r))\/
  (¬ [73,110,102,105,110,105,116,121] <+: s/\¬ [78,97,78] <+: s/\∃ r,s=[48,120]++r/\kV s=(dV eK r,r.dropWhile eK))\/
  (¬ [73,110,102,105,110,105,116,121] <+: s/\¬ [78,97,78] <+: s/\¬ [48,120] <+: s/\∃ r,s=[48,88]++r/\kV s=(dV eK r,r.dropWhile eK))\/
  (¬ [73,110,102,105,110,105,116,121] <+: s/\¬ [78,97,78] <+: s/\¬ [48,120] <+: s/\¬ [48,88] <+: s/\kV s=gL s):=by
 by_cases h:oO <+: s
 ·obtain ⟨r,rfl⟩:=id h;exact .inl ⟨r,rfl,by unfold kV;rw [if_pos h];rfl⟩
 ·by_cases j:nan <+: s
  ·obtain ⟨r,rfl⟩:=id j;exact .inr (.inl ⟨h,r,rfl,by unfold kV;rw [if_neg h,if_pos j];rfl⟩)
  ·by_cases u:[48,120] <+: s
   ·obtain ⟨r,rfl⟩:=id u;refine .inr (.inr (.inl ⟨h,j,r,rfl,?_⟩));unfold kV;rw [if_neg h,if_neg j];simp [isX,aAy]
   ·by_cases y:[48,88] <+: s
    ·obtain ⟨r,rfl⟩:=id y;refine .inr (.inr (.inr (.inl ⟨h,j,u,r,rfl,?_⟩)));unfold kV;rw [if_neg h,if_neg j];simp [isX,aAy]
    ·refine .inr (.inr (.inr (.inr ⟨h,j,u,y,?_⟩)));unfold kV;rw [if_neg h,if_neg j]
     match s,u,y with
     | [],_,_=>rfl
     | [c],_,_=>rfl
     | c::x::r,u,y=>
       simp only;rw [if_neg];rintro ⟨rfl,D⟩;have A:x=120\/x=88:=(by simpa [isX] using D);rcases A with rfl | rfl
       ·exact u ⟨r,rfl⟩
       ·exact y ⟨r,rfl⟩
theorem aBi {sb:Nat} {w0 w:World} (s:List Int) (h:St sb w0 w s) :
  Calls prog 154 #[.pointer (some ⟨sb,0,none⟩)] w fun e w'=>e=.returned (.bool (kV (eB s)).1)/\St sb w0 w' (kV (eB s)).2:=by
 rcases tF s with ⟨t,rfl,O⟩ | ⟨t,rfl,L,O⟩ | ⟨L,U,O⟩
 ·rw [O];clear O;rcases aLV t with ⟨r,y,j⟩ | ⟨u,r,y,j⟩ | ⟨u,A,r,y,j⟩ | ⟨u,A,H,r,y,j⟩ | ⟨u,A,H,S,j⟩
  ·rw [j];clear j;have D:=aB y;clear y
   go_enter func154,ntmps154
   go_wp2_with fail
   refine (y43 h).mono ?_;rintro e w' ⟨rfl,h⟩
   go_wp2_with fail
   refine (aMq (D.out ▸ h)).mono ?_;rintro e w' ⟨rfl,h⟩;go_wp2;go_ret;exact ⟨rfl,h⟩
  ·rw [j];have G:=aB u;clear j u;have D:=aB y;clear y
   go_enter func154,ntmps154
   go_wp2_with fail
   refine (y43 h).mono ?_;rintro e w' ⟨rfl,h⟩
   go_wp2_with fail
   refine (yJ G.out h).mono ?_;rintro e w' ⟨rfl,h⟩
   go_wp2_with fail
   refine (aLK (D.out ▸ h)).mono ?_;rintro e w' ⟨rfl,h⟩;go_wp2;go_ret;exact ⟨rfl,h⟩
  ·rw [j];have G:=aB u;have J:=aB A;clear j u A;have D:=aB y;clear y
   go_enter func154,ntmps154
   go_wp2_with fail
   refine (y43 h).mono ?_;rintro e w' ⟨rfl,h⟩
   go_wp2_with fail
   refine (yJ G.out h).mono ?_;rintro e w' ⟨rfl,h⟩
   go_wp2_with fail
   refine (aCE J.out h).mono ?_;rintro e w' ⟨rfl,h⟩
   go_wp2_with fail
   refine (yx (D.out ▸ h)).mono ?_;rintro e w' ⟨rfl,h⟩
   go_wp2_with fail
   refine (skh h).mono ?_;rintro e w' ⟨rfl,h⟩;go_wp2;go_ret;exact ⟨rfl,h⟩
  ·rw [j];have G:=aB u;have J:=aB A;have N:=aB H;clear j u A H;have D:=aB y;clear y
   go_enter func154,ntmps154
   go_wp2_with fail
   refine (y43 h).mono ?_;rintro e w' ⟨rfl,h⟩
   go_wp2_with fail
   refine (yJ G.out h).mono ?_;rintro e w' ⟨rfl,h⟩
   go_wp2_with fail
   refine (aCE J.out h).mono ?_;rintro e w' ⟨rfl,h⟩
   go_wp2_with fail
   refine (nx N.out h).mono ?_;rintro e w' ⟨rfl,h⟩
   go_wp2_with fail
   refine (yX (D.out ▸ h)).mono ?_;rintro e w' ⟨rfl,h⟩
   go_wp2_with fail
   refine (skh h).mono ?_;rintro e w' ⟨rfl,h⟩;go_wp2;go_ret;exact ⟨rfl,h⟩
  ·rw [j];have G:=aB u;have J:=aB A;have N:=aB H;have X:=aB S;clear j u A H S
   go_enter func154,ntmps154
   go_wp2_with fail
   refine (y43 h).mono ?_;rintro e w' ⟨rfl,h⟩
   go_wp2_with fail
   refine (yJ G.out h).mono ?_;rintro e w' ⟨rfl,h⟩
   go_wp2_with fail
   refine (aCE J.out h).mono ?_;rintro e w' ⟨rfl,h⟩
   go_wp2_with fail
   refine (nx N.out h).mono ?_;rintro e w' ⟨rfl,h⟩
   go_wp2_with fail
   refine (nX X.out h).mono ?_;rintro e w' ⟨rfl,h⟩
   go_wp2_with fail
   refine (mM _ h).mono ?_;rintro e w' ⟨rfl,h⟩;go_wp2;go_ret;exact ⟨rfl,h⟩
 ·rw [O];have E:=aB L;clear O L;rcases aLV t with ⟨r,y,j⟩ | ⟨u,r,y,j⟩ | ⟨u,A,r,y,j⟩ | ⟨u,A,H,r,y,j⟩ | ⟨u,A,H,S,j⟩
  ·rw [j];clear j;have D:=aB y;clear y
   go_enter func154,ntmps154
   go_wp2_with fail
   refine (n43 E.out h).mono ?_;rintro e w' ⟨rfl,h⟩
   go_wp2_with fail
   refine (y45 h).mono ?_;rintro e w' ⟨rfl,h⟩
   go_wp2_with fail
   refine (aMq (D.out ▸ h)).mono ?_;rintro e w' ⟨rfl,h⟩;go_wp2;go_ret;exact ⟨rfl,h⟩
  ·rw [j];have G:=aB u;clear j u;have D:=aB y;clear y
   go_enter func154,ntmps154
   go_wp2_with fail
   refine (n43 E.out h).mono ?_;rintro e w' ⟨rfl,h⟩
   go_wp2_with fail
   refine (y45 h).mono ?_;rintro e w' ⟨rfl,h⟩
   go_wp2_with fail
   refine (yJ G.out h).mono ?_;rintro e w' ⟨rfl,h⟩
   go_wp2_with fail
   refine (aLK (D.out ▸ h)).mono ?_;rintro e w' ⟨rfl,h⟩;go_wp2;go_ret;exact ⟨rfl,h⟩
  ·rw [j];have G:=aB u;have J:=aB A;clear j u A;have D:=aB y;clear y
   go_enter func154,ntmps154
   go_wp2_with fail
   refine (n43 E.out h).mono ?_;rintro e w' ⟨rfl,h⟩
   go_wp2_with fail
   refine (y45 h).mono ?_;rintro e w' ⟨rfl,h⟩
   go_wp2_with fail
   refine (yJ G.out h).mono ?_;rintro e w' ⟨rfl,h⟩
   go_wp2_with fail
   refine (aCE J.out h).mono ?_;rintro e w' ⟨rfl,h⟩
   go_wp2_with fail
   refine (yx (D.out ▸ h)).mono ?_;rintro e w' ⟨rfl,h⟩
   go_wp2_with fail
   refine (skh h).mono ?_;rintro e w' ⟨rfl,h⟩;go_wp2;go_ret;exact ⟨rfl,h⟩
  ·rw [j];have G:=aB u;have J:=aB A;have N:=aB H;clear j u A H;have D:=aB y;clear y
   go_enter func154,ntmps154
   go_wp2_with fail
   refine (n43 E.out h).mono ?_;rintro e w' ⟨rfl,h⟩
   go_wp2_with fail
   refine (y45 h).mono ?_;rintro e w' ⟨rfl,h⟩
   go_wp2_with fail
   refine (yJ G.out h).mono ?_;rintro e w' ⟨rfl,h⟩
   go_wp2_with fail
   refine (aCE J.out h).mono ?_;rintro e w' ⟨rfl,h⟩
   go_wp2_with fail
   refine (nx N.out h).mono ?_;rintro e w' ⟨rfl,h⟩
   go_wp2_with fail
   refine (yX (D.out ▸ h)).mono ?_;rintro e w' ⟨rfl,h⟩
   go_wp2_with fail
   refine (skh h).mono ?_;rintro e w' ⟨rfl,h⟩;go_wp2;go_ret;exact ⟨rfl,h⟩
  ·rw [j];have G:=aB u;have J:=aB A;have N:=aB H;have X:=aB S;clear j u A H S
   go_enter func154,ntmps154
   go_wp2_with fail
   refine (n43 E.out h).mono ?_;rintro e w' ⟨rfl,h⟩
   go_wp2_with fail
   refine (y45 h).mono ?_;rintro e w' ⟨rfl,h⟩
   go_wp2_with fail
   refine (yJ G.out h).mono ?_;rintro e w' ⟨rfl,h⟩
   go_wp2_with fail
   refine (aCE J.out h).mono ?_;rintro e w' ⟨rfl,h⟩
   go_wp2_with fail
   refine (nx N.out h).mono ?_;rintro e w' ⟨rfl,h⟩
   go_wp2_with fail
   refine (nX X.out h).mono ?_;rintro e w' ⟨rfl,h⟩
   go_wp2_with fail
   refine (mM _ h).mono ?_;rintro e w' ⟨rfl,h⟩;go_wp2;go_ret;exact ⟨rfl,h⟩
 ·rw [O];have E:=aB L;have M:=aB U;clear O L U;rcases aLV s with ⟨r,y,j⟩ | ⟨u,r,y,j⟩ | ⟨u,A,r,y,j⟩ | ⟨u,A,H,r,y,j⟩ | ⟨u,A,H,S,j⟩
  ·rw [j];clear j;have D:=aB y;clear y
   go_enter func154,ntmps154
   go_wp2_with fail
   refine (n43 E.out h).mono ?_;rintro e w' ⟨rfl,h⟩
   go_wp2_with fail
   refine (n45 M.out h).mono ?_;rintro e w' ⟨rfl,h⟩
   go_wp2_with fail
   refine (aMq (D.out ▸ h)).mono ?_;rintro e w' ⟨rfl,h⟩;go_wp2;go_ret;exact ⟨rfl,h⟩
  ·rw [j];have G:=aB u;clear j u;have D:=aB y;clear y
   go_enter func154,ntmps154
   go_wp2_with fail
   refine (n43 E.out h).mono ?_;rintro e w' ⟨rfl,h⟩
   go_wp2_with fail
   refine (n45 M.out h).mono ?_;rintro e w' ⟨rfl,h⟩
   go_wp2_with fail
   refine (yJ G.out h).mono ?_;rintro e w' ⟨rfl,h⟩
   go_wp2_with fail
   refine (aLK (D.out ▸ h)).mono ?_;rintro e w' ⟨rfl,h⟩;go_wp2;go_ret;exact ⟨rfl,h⟩
  ·rw [j];have G:=aB u;have J:=aB A;clear j u A;have D:=aB y;clear y
   go_enter func154,ntmps154
   go_wp2_with fail
   refine (n43 E.out h).mono ?_;rintro e w' ⟨rfl,h⟩
   go_wp2_with fail
   refine (n45 M.out h).mono ?_;rintro e w' ⟨rfl,h⟩
   go_wp2_with fail
   refine (yJ G.out h).mono ?_;rintro e w' ⟨rfl,h⟩
   go_wp2_with fail
   refine (aCE J.out h).mono ?_;rintro e w' ⟨rfl,h⟩
   go_wp2_with fail
   refine (yx (D.out ▸ h)).mono ?_;rintro e w' ⟨rfl,h⟩
   go_wp2_with fail
   refine (skh h).mono ?_;rintro e w' ⟨rfl,h⟩;go_wp2;go_ret;exact ⟨rfl,h⟩
  ·rw [j];have G:=aB u;have J:=aB A;have N:=aB H;clear j u A H;have D:=aB y;clear y
   go_enter func154,ntmps154
   go_wp2_with fail
   refine (n43 E.out h).mono ?_;rintro e w' ⟨rfl,h⟩
   go_wp2_with fail
   refine (n45 M.out h).mono ?_;rintro e w' ⟨rfl,h⟩
   go_wp2_with fail
   refine (yJ G.out h).mono ?_;rintro e w' ⟨rfl,h⟩
   go_wp2_with fail
   refine (aCE J.out h).mono ?_;rintro e w' ⟨rfl,h⟩
   go_wp2_with fail
   refine (nx N.out h).mono ?_;rintro e w' ⟨rfl,h⟩
   go_wp2_with fail
   refine (yX (D.out ▸ h)).mono ?_;rintro e w' ⟨rfl,h⟩
   go_wp2_with fail
   refine (skh h).mono ?_;rintro e w' ⟨rfl,h⟩;go_wp2;go_ret;exact ⟨rfl,h⟩
  ·rw [j];have G:=aB u;have J:=aB A;have N:=aB H;have X:=aB S;clear j u A H S
   go_enter func154,ntmps154
   go_wp2_with fail
   refine (n43 E.out h).mono ?_;rintro e w' ⟨rfl,h⟩
   go_wp2_with fail
   refine (n45 M.out h).mono ?_;rintro e w' ⟨rfl,h⟩
   go_wp2_with fail
   refine (yJ G.out h).mono ?_;rintro e w' ⟨rfl,h⟩
   go_wp2_with fail
   refine (aCE J.out h).mono ?_;rintro e w' ⟨rfl,h⟩
   go_wp2_with fail
   refine (nx N.out h).mono ?_;rintro e w' ⟨rfl,h⟩
   go_wp2_with fail
   refine (nX X.out h).mono ?_;rintro e w' ⟨rfl,h⟩
   go_wp2_with fail
   refine (mM _ h).mono ?_;rintro e w' ⟨rfl,h⟩;go_wp2;go_ret;exact ⟨rfl,h⟩
theorem xK (v:Value) (zs:List Int) (w:World) (hv:RdB w.heap.size w v zs) (N:Sl v zs.length) (S:Bys zs) (U:zs.length<=1048576) (H:Tab w) :
  Calls prog 138 #[v] w fun e w'=>e=.returned (.bool (dI zs))/\w.grownBy w' none:=by
 have D:=World.grownBy_alloc w (.cells #[v,.int .i64 0] 222) none;have h:=H.pos
 have A:St w.heap.size (w.alloc (.cells #[v,.int .i64 0] 222)) (w.alloc (.cells #[v,.int .i64 0] 222)) zs:=
  ⟨v,zs,0,Nat.zero_le _,by simp,by simpa using aHL w v 0,⟨hv.K D,N,S,U⟩,H.K D,h,World.grownBy.refl _ _⟩
 have J:=aB (aBi zs A);have M:=aB D;have E:Hid (dI zs=((kV (eB zs)).1&&decide ((kV (eB zs)).2=[]))):=rfl;obtain ⟨a,cap,rfl,_⟩:=hv;clear A D h H N;generalize kV (eB zs)=u at J E;obtain ⟨u1,u2⟩:=u;cases u1
 ·go_enter func138,ntmps138
  go_wp2_with fail
  refine J.out.mono ?_;rintro e L ⟨rfl,j⟩;have y:=(by obtain ⟨_,_,_,_,_,_,_,_,_,g⟩:=j;exact g:World.grownBy _ L _);have G:=aB (tU M.out (Nat.le_refl _) y);clear j y;go_wp2;go_ret;exact ⟨by rw [E.out];rfl,G.out⟩
 ·go_enter func138,ntmps138
  go_wp2_with fail
  refine J.out.mono ?_;rintro e L ⟨rfl,j⟩
  go_wp2_with fail
  refine (aIS _ j).mono ?_;rintro e O ⟨rfl,j⟩;have y:=(by obtain ⟨_,_,_,_,_,_,_,_,_,g⟩:=j;exact g:World.grownBy _ O _);have G:=aB (tU M.out (Nat.le_refl _) y);clear j y;go_wp2;go_ret;exact ⟨by rw [E.out];rfl,G.out⟩
end Go.Proofs.YtgifkcpdihphlaaGreatDoor
