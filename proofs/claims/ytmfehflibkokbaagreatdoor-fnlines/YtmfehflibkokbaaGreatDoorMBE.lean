import Derived.Test.YtmfehflibkokbaaGreatDoorMBD
set_option maxHeartbeats 16000000
set_option maxRecDepth 100000
namespace Go.Proofs.YtmfehflibkokbaaGreatDoor
open Go.Proofs.Tryz
open Go.RowKit
structure Cx (w:World) (B:Nat) (m:Int):Prop where
 T:Tab w
 M:w.cell? ⟨1,0,none⟩=some (.int .i64 m)
 b:2<=B
 s:B<=w.heap.size
theorem Cx.below {w w':World} {B:Nat} {m:Int} (h:Cx w B m) (y:Below B w w') (A:w.heap.size<=w'.heap.size):Cx w' B m:=
 ⟨h.T.below y (by have:=h.b;omega),(World.cell?_of_block (y.block 1 (by have:=h.b;omega))).trans h.M,h.b,Nat.le_trans h.s A⟩
theorem kQ {w w':World} {B h:Nat} (g:w.grownBy w' (some h)) (y:B<=h) (A:B<=w.heap.size):Below B w w':=(Below.refl B w).grown g A (fun k e=>by cases e;exact y)
theorem RdC.below {B k:Nat} {w w':World} {v:Value} {y:List Cm} (h:RdC B w v y) (g:w.grownBy w' (some k)) (A:B<=k):RdC B w' v y:=h.beside g (fun j e=>by cases e;exact A)
theorem fC (h:Nat) (v cv:Value) (y:List Cm) (c r m:Int) (B:Nat) (w:World) (hk:Ck w h v c r) (hx:Cx w B m) (hv:RdC B w cv y) (hB:B<=h) (hn:y.length<=1048576) (ho:xC y) (hr:0<=r/\r<=1048576) (hc : -1048576<=c/\c<=1048576) :
  Calls prog 49 #[.pointer (some ⟨h,0,none⟩),cv] w fun e w'=>∃ (b:Bool) (c' r':Int),e=.returned (.bool b)/\Ck w' h v c' r'/\lU bE y (c,r)=(if b then some (c',r') else none)/\w.grownBy w' (some h):=by
 obtain ⟨a,cap,d4,_⟩:=id hv;have a2:=hk.c;have b2:=hk.fc;have HK:Hid (Ck (w.setCell ⟨h,1,none⟩ (.int .i64 (c - y.length))) h v (c - y.length) r):=hk.setC _;have HG:Hid (w.grownBy (w.setCell ⟨h,1,none⟩ (.int .i64 (c - y.length))) (some h)):=kL w ⟨h,1,none⟩ _;have HV:=aB (hv.below HG.out hB);have HX:=aB (hx.below (kQ HG.out hB hx.s) (by simp));have HO:=aB ho;subst d4;clear hk hv hx ho
 by_cases d2:c - (y.length:Int)<0
 ·have HF:Hid (lU bE y (c,r)=none):=by unfold Hid lU;rw [if_pos d2]
  go_enter func49,ntmps49
  go_wp2;go_ret;exact ⟨false,_,_,rfl,HK.out,HF.out,HG.out⟩
 ·have b6:(y.length:Int)<=c:=by omega
  go_enter func49,ntmps49
  go_wp2;obtain ⟨W1,b9⟩:∃ W1,W1=w.setCell ⟨h,1,none⟩ (.int .i64 (c - y.length)):=⟨_,rfl⟩;rw [<- b9] at HK HG HV HX ⊢;clear b9 a2 b2
  go_loopw [23] (fun i wr=>∃ k:Nat,k<=y.length/\i=.int .i64 k/\Hid ((y.take k).all bE=true)/\Hid (Ck wr h v (c - y.length) (r - bQ (y.take k)))/\0<=r - bQ (y.take k)/\W1.grownBy wr (some h)) (fun i _=>y.length - (intOf i).toNat)
  case atStart=>exact ⟨0,Nat.zero_le _,rfl,by simp [Hid],by simpa [bQ] using HK,by simpa [bQ] using hr.1,World.grownBy.refl _ _⟩
  case round=>
   obtain ⟨k,hk,rfl,HA,S,d6,E⟩:=hrel;have a4:=aB E;have b1:=aB (HX.out.below (kQ E hB HX.out.s) E.size);have f9:=bJ (y.take k)
   by_cases U:k<y.length
   ·obtain ⟨b,off,f4,tv,c7,hb,hp⟩:=(HV.out.below E hB).at k U;cases c7;have z0:=hp.k;have z1:=hp.t;obtain ⟨l1,l2⟩:=HO.out y[k] (List.getElem_mem U);have a9:=vN y k U;have a6:=aBQ y (k+1);have g4:=S.out.lt;have gA:=World.grownBy_alloc wr (Obj.cells #[.bool y[k].b,tv] 128) none;have HT:=aB (oY h v none y[k].t.length 0 (c - y.length) (r - bQ (y.take k)) _ (S.out.K gA) l1 (by omega));obtain ⟨ta,O,c1,s1,s2⟩:=id hp.sl;have J:=aB (oY h v ta y[k].t.length O (c - y.length) (r - bQ (y.take k)) _ (S.out.K gA) l1 (by omega));have GA:=aB gA;have HP:=aB hp;have g0:(k:Int)<y.length:=(by omega);clear HT gA hp E
    by_cases A:(y[k].t.length:Int)<=r - bQ (y.take k)
    ·rw [decide_eq_true A] at J
     have Y:Hid (∀ N:World,(wr.alloc (Obj.cells #[.bool y[k].b,tv] 128)).grownBy N (some h)->Calls prog 91 #[.agg #[.bool y[k].b,tv]] N fun e w'=>e=.returned (.bool (bE y[k]))/\N.grownBy w' none):=fun N D=>by
      have X2:=(b1.out.below (aT GA.out |>.mono b1.out.s) GA.out.size).below (kQ D hB (Nat.le_trans b1.out.s GA.out.size)) D.size;exact aAD tv y[k] m N ((((HP.out.rd.K GA.out).beside D (fun j e=>by cases e;exact hB))).wideC X2.s) l2 l1 HP.out.sl X2.T X2.M
     subst c1;cases G:bE y[k] with
     | true=>
       have HN:=aB (wJ bE y k U HA.out G);have b7:r - bQ (y.take k) - (y[k].t.length:Int)=r - bQ (y.take (k+1)):=(by omega);rw [G] at Y;rw [b7] at J;have b8:0<=r - bQ (y.take (k+1)):=(by omega);clear G b7 a9 a6 A l2;generalize y[k]=p at *
       go_wp2_with fail
       refine J.out.mono ?_;rintro e N ⟨rfl,Z,D⟩;have q0:N.cell? ⟨wr.heap.size,0,none⟩=some (.bool p.b):=D.cell (by simp [go_sem]) (by simp;omega);have q1:N.cell? ⟨wr.heap.size,1,none⟩=some (.slice ta p.t.length O):=D.cell (by simp [go_sem]) (by simp;omega);have K2:=aB Z;have X:=aB D;clear Z D
       go_wp2_with fail
       refine (Y.out _ X.out).mono ?_;rintro e w3 ⟨rfl,g3⟩;have K3:=aB (K2.out.K g3);have G3:=aB (aQ a4.out (aQ (eB GA.out _) (aQ X.out (eB g3 _))));clear g3;go_wp2
       go_roundw
       case rel=>exact ⟨k+1,by omega,by go_num,HN,K3,b8,G3.out⟩
       case measure=>simp [intOf];omega
     | false=>
       have HF:Hid (lU bE y (c,r)=none):=by
        unfold Hid;rw [lS bE y c r hr.1,if_neg];rintro ⟨_,h2,_⟩;rw [zH bE y k U G] at h2;cases h2
       rw [G] at Y;clear G a9 a6 A l2;generalize y[k]=p at *
       go_wp2_with fail
       refine J.out.mono ?_;rintro e N ⟨rfl,Z,D⟩;have q0:N.cell? ⟨wr.heap.size,0,none⟩=some (.bool p.b):=D.cell (by simp [go_sem]) (by simp;omega);have q1:N.cell? ⟨wr.heap.size,1,none⟩=some (.slice ta p.t.length O):=D.cell (by simp [go_sem]) (by simp;omega);have K2:=aB Z;have X:=aB D;clear Z D
       go_wp2_with fail
       refine (Y.out _ X.out).mono ?_;rintro e w3 ⟨rfl,g3⟩;have K3:=aB (K2.out.K g3);have G3:=aB (aQ HG.out (aQ a4.out (aQ (eB GA.out _) (aQ X.out (eB g3 _)))));clear g3;go_wp2;go_ret;exact ⟨false,_,_,rfl,K3.out,HF.out,G3.out⟩
    ·have HF:Hid (lU bE y (c,r)=none):=by
      unfold Hid;rw [lS bE y c r hr.1,if_neg];rintro ⟨_,_,h3⟩;omega
     rw [decide_eq_false A] at J;subst c1;clear a9 a6 A l2;generalize y[k]=p at *
     go_wp2_with fail
     refine J.out.mono ?_;rintro e N ⟨rfl,Z,D⟩;have K2:=aB Z;have X:=aB (aQ HG.out (aQ a4.out (aQ (eB GA.out _) D)));clear Z D;go_wp2;go_ret;exact ⟨false,_,_,rfl,K2.out,HF.out,X.out⟩
   ·have d8:k=y.length:=(by omega);subst d8;rw [List.take_length] at HA S d6
    have HF:Hid (lU bE y (c,r)=some (c - y.length,r - bQ y)):=by
     unfold Hid;rw [lS bE y c r hr.1,if_pos ⟨b6,HA.out,by omega⟩]
    have X:=aB (aQ HG.out E);clear E;go_wp2;go_ret;exact ⟨true,_,_,rfl,S.out,HF.out,X.out⟩
theorem xH {c:Int} (A:0<=c) (y:c<=255):Bys [c]:=fun z h=>by simp at h;omega
theorem y48 {sb:Nat} {w0 w:World} {r:List Int} (h:St sb w0 w ([48]++r)) :
  Calls prog 156 #[.pointer (some ⟨sb,0,none⟩),.string { data:=#[48] }] w fun e w'=>e=.returned (.bool true)/\St sb w0 w' r:=eW [48] r (xH (by omega) (by omega)) (by simp) h
theorem n48 {sb:Nat} {w0 w:World} {s:List Int} (y:¬ [48] <+: s) (h:St sb w0 w s) :
  Calls prog 156 #[.pointer (some ⟨sb,0,none⟩),.string { data:=#[48] }] w fun e w'=>e=.returned (.bool false)/\St sb w0 w' s:=fZ [48] s (xH (by omega) (by omega)) (by simp) y h
theorem y46 {sb:Nat} {w0 w:World} {r:List Int} (h:St sb w0 w ([46]++r)) :
  Calls prog 156 #[.pointer (some ⟨sb,0,none⟩),.string { data:=#[46] }] w fun e w'=>e=.returned (.bool true)/\St sb w0 w' r:=eW [46] r (xH (by omega) (by omega)) (by simp) h
theorem n46 {sb:Nat} {w0 w:World} {s:List Int} (y:¬ [46] <+: s) (h:St sb w0 w s) :
  Calls prog 156 #[.pointer (some ⟨sb,0,none⟩),.string { data:=#[46] }] w fun e w'=>e=.returned (.bool false)/\St sb w0 w' s:=fZ [46] s (xH (by omega) (by omega)) (by simp) y h
theorem aIn {sb:Nat} {w0 w:World} {r:List Int} (h:St sb w0 w ([101]++r)) :
  Calls prog 156 #[.pointer (some ⟨sb,0,none⟩),.string { data:=#[101] }] w fun e w'=>e=.returned (.bool true)/\St sb w0 w' r:=eW [101] r (xH (by omega) (by omega)) (by simp) h
theorem aIm {sb:Nat} {w0 w:World} {s:List Int} (y:¬ [101] <+: s) (h:St sb w0 w s) :
  Calls prog 156 #[.pointer (some ⟨sb,0,none⟩),.string { data:=#[101] }] w fun e w'=>e=.returned (.bool false)/\St sb w0 w' s:=fZ [101] s (xH (by omega) (by omega)) (by simp) y h
theorem y69 {sb:Nat} {w0 w:World} {r:List Int} (h:St sb w0 w ([69]++r)) :
  Calls prog 156 #[.pointer (some ⟨sb,0,none⟩),.string { data:=#[69] }] w fun e w'=>e=.returned (.bool true)/\St sb w0 w' r:=eW [69] r (xH (by omega) (by omega)) (by simp) h
theorem n69 {sb:Nat} {w0 w:World} {s:List Int} (y:¬ [69] <+: s) (h:St sb w0 w s) :
  Calls prog 156 #[.pointer (some ⟨sb,0,none⟩),.string { data:=#[69] }] w fun e w'=>e=.returned (.bool false)/\St sb w0 w' s:=fZ [69] s (xH (by omega) (by omega)) (by simp) y h
theorem y43 {sb:Nat} {w0 w:World} {r:List Int} (h:St sb w0 w ([43]++r)) :
  Calls prog 156 #[.pointer (some ⟨sb,0,none⟩),.string { data:=#[43] }] w fun e w'=>e=.returned (.bool true)/\St sb w0 w' r:=eW [43] r (xH (by omega) (by omega)) (by simp) h
theorem n43 {sb:Nat} {w0 w:World} {s:List Int} (y:¬ [43] <+: s) (h:St sb w0 w s) :
  Calls prog 156 #[.pointer (some ⟨sb,0,none⟩),.string { data:=#[43] }] w fun e w'=>e=.returned (.bool false)/\St sb w0 w' s:=fZ [43] s (xH (by omega) (by omega)) (by simp) y h
theorem y45 {sb:Nat} {w0 w:World} {r:List Int} (h:St sb w0 w ([45]++r)) :
  Calls prog 156 #[.pointer (some ⟨sb,0,none⟩),.string { data:=#[45] }] w fun e w'=>e=.returned (.bool true)/\St sb w0 w' r:=eW [45] r (xH (by omega) (by omega)) (by simp) h
theorem n45 {sb:Nat} {w0 w:World} {s:List Int} (y:¬ [45] <+: s) (h:St sb w0 w s) :
  Calls prog 156 #[.pointer (some ⟨sb,0,none⟩),.string { data:=#[45] }] w fun e w'=>e=.returned (.bool false)/\St sb w0 w' s:=fZ [45] s (xH (by omega) (by omega)) (by simp) y h
theorem skd {sb:Nat} {w0 w:World} {s:List Int} (t:List Int) (b:Bool) (y:s.dropWhile aK=t) (A:dS aK s=b) (h:St sb w0 w s) :
  Calls prog 157 #[.pointer (some ⟨sb,0,none⟩),.func (.func 171) #[] #[]] w fun e w'=>e=.returned (.bool b)/\St sb w0 w' t:=by
 rw [<- y,<- A];exact aE8 _ aK aEi aJq s h
theorem aAr {sb:Nat} {w0 w:World} (s M O:List Int) (U:Bool) (S:Hid (M.dropWhile aK=O)) (N:Hid (dS aK M=U)) (Z:Hid (gF s=iK (true,O))) (h:St sb w0 w ([48]++([46]++M))) :
  Calls prog 159 #[.pointer (some ⟨sb,0,none⟩)] w fun e w'=>e=.returned (.bool (gF s).1)/\St sb w0 w' (gF s).2:=by
 have X:∀ (x:Bool) (w:World),(Op.unary .not (.bool x)).run prog w=.ok (.bool (!x)) w:=fun _ _=>rfl;cases U
 all_goals
  go_enter func159,ntmps159
  go_wp2_with fail
  refine (y48 h).mono ?_;rintro e w' ⟨rfl,h⟩
  go_wp2_with fail
  refine (y46 h).mono ?_;rintro e w' ⟨rfl,h⟩
  go_wp2_with fail
  refine (skd _ _ S.out N.out h).mono ?_;rintro e w' ⟨rfl,h⟩;rcases aGZ O with ⟨Y,rfl,y⟩ | ⟨Y,rfl,A,y⟩ | ⟨A,G,y⟩
  all_goals try rcases sC Y with ⟨t,rfl,J⟩ | ⟨t,rfl,D,J⟩ | ⟨D,E,J⟩
  all_goals
   try rw [J] at y
   replace y:=aB (Z.out.trans y)
   try clear J
   try replace A:=aB A
   try replace G:=aB G
   try replace D:=aB D
   try replace E:=aB E
   go_wp2_with fail
   first
    | (refine (aIn h).mono ?_;rintro e w' ⟨rfl,h⟩)
    | (refine (aIm A.out h).mono ?_;rintro e w' ⟨rfl,h⟩;go_wp2_with fail
       first
        | (refine (y69 h).mono ?_;rintro e w' ⟨rfl,h⟩)
        | (refine (n69 G.out h).mono ?_;rintro e w' ⟨rfl,h⟩;go_wp2;go_ret;exact ⟨by rw [y.out];rfl,by rw [y.out];exact h⟩))
  all_goals
   go_wp2_with fail
   first
    | (refine (y43 h).mono ?_;rintro e w' ⟨rfl,h⟩)
    | (refine (n43 D.out h).mono ?_;rintro e w' ⟨rfl,h⟩;go_wp2_with fail
       first
        | (refine (y45 h).mono ?_;rintro e w' ⟨rfl,h⟩)
        | (refine (n45 E.out h).mono ?_;rintro e w' ⟨rfl,h⟩))
   go_wp2_with fail
   refine (skd _ _ rfl rfl h).mono ?_;rintro e w' ⟨rfl,h⟩;go_wp2;go_ret;exact ⟨by rw [y.out];rfl,by rw [y.out];exact h⟩
theorem aAa {sb:Nat} {w0 w:World} (s r:List Int) (M:Hid (¬ [46] <+: r)) (S:Hid (gF s=iK (true,r))) (h:St sb w0 w ([48]++r)) :
  Calls prog 159 #[.pointer (some ⟨sb,0,none⟩)] w fun e w'=>e=.returned (.bool (gF s).1)/\St sb w0 w' (gF s).2:=by
 have N:∀ (x:Bool) (w:World),(Op.unary .not (.bool x)).run prog w=.ok (.bool (!x)) w:=fun _ _=>rfl
 go_enter func159,ntmps159
 go_wp2_with fail
 refine (y48 h).mono ?_;rintro e w' ⟨rfl,h⟩
 go_wp2_with fail
 refine (n46 M.out h).mono ?_;rintro e w' ⟨rfl,h⟩;rcases aGZ r with ⟨O,rfl,y⟩ | ⟨O,rfl,D,y⟩ | ⟨D,G,y⟩
 all_goals try rcases sC O with ⟨t,rfl,J⟩ | ⟨t,rfl,A,J⟩ | ⟨A,E,J⟩
 all_goals
  try rw [J] at y
  replace y:=aB (S.out.trans y)
  try clear J
  try replace D:=aB D
  try replace G:=aB G
  try replace A:=aB A
  try replace E:=aB E
  go_wp2_with fail
  first
   | (refine (aIn h).mono ?_;rintro e w' ⟨rfl,h⟩)
   | (refine (aIm D.out h).mono ?_;rintro e w' ⟨rfl,h⟩;go_wp2_with fail
      first
       | (refine (y69 h).mono ?_;rintro e w' ⟨rfl,h⟩)
       | (refine (n69 G.out h).mono ?_;rintro e w' ⟨rfl,h⟩;go_wp2;go_ret;exact ⟨by rw [y.out];rfl,by rw [y.out];exact h⟩))
 all_goals
  go_wp2_with fail
  first
   | (refine (y43 h).mono ?_;rintro e w' ⟨rfl,h⟩)
   | (refine (n43 A.out h).mono ?_;rintro e w' ⟨rfl,h⟩;go_wp2_with fail
      first
       | (refine (y45 h).mono ?_;rintro e w' ⟨rfl,h⟩)
       | (refine (n45 E.out h).mono ?_;rintro e w' ⟨rfl,h⟩))
  go_wp2_with fail
  refine (skd _ _ rfl rfl h).mono ?_;rintro e w' ⟨rfl,h⟩;go_wp2;go_ret;exact ⟨by rw [y.out];rfl,by rw [y.out];exact h⟩
theorem yQ {sb:Nat} {w0 w:World} (s M S:List Int) (Y:Bool) (N:Hid (¬ [48] <+: s)) (U:Hid (s.dropWhile aK=[46]++M)) (hh:Hid (dS aK s=true)) (X:Hid (M.dropWhile aK=S)) (O:Hid (dS aK M=Y)) (HM:Hid (gF s=iK (true,S))) (h:St sb w0 w s) :
  Calls prog 159 #[.pointer (some ⟨sb,0,none⟩)] w fun e w'=>e=.returned (.bool (gF s).1)/\St sb w0 w' (gF s).2:=by
 have Z:∀ (x:Bool) (w:World),(Op.unary .not (.bool x)).run prog w=.ok (.bool (!x)) w:=fun _ _=>rfl;cases Y
 all_goals
  go_enter func159,ntmps159
  go_wp2_with fail
  refine (n48 N.out h).mono ?_;rintro e w' ⟨rfl,h⟩
  go_wp2_with fail
  refine (skd _ _ U.out hh.out h).mono ?_;rintro e w' ⟨rfl,h⟩
  go_wp2_with fail
  refine (y46 h).mono ?_;rintro e w' ⟨rfl,h⟩
  go_wp2_with fail
  refine (skd _ _ X.out O.out h).mono ?_;rintro e w' ⟨rfl,h⟩;rcases aGZ S with ⟨r3,rfl,y⟩ | ⟨r3,rfl,A,y⟩ | ⟨A,G,y⟩
  all_goals try rcases sC r3 with ⟨t,rfl,J⟩ | ⟨t,rfl,D,J⟩ | ⟨D,E,J⟩
  all_goals
   try rw [J] at y
   replace y:=aB (HM.out.trans y)
   try clear J
   try replace A:=aB A
   try replace G:=aB G
   try replace D:=aB D
   try replace E:=aB E
   go_wp2_with fail
   first
    | (refine (aIn h).mono ?_;rintro e w' ⟨rfl,h⟩)
    | (refine (aIm A.out h).mono ?_;rintro e w' ⟨rfl,h⟩;go_wp2_with fail
       first
        | (refine (y69 h).mono ?_;rintro e w' ⟨rfl,h⟩)
        | (refine (n69 G.out h).mono ?_;rintro e w' ⟨rfl,h⟩;go_wp2;go_ret;exact ⟨by rw [y.out];rfl,by rw [y.out];exact h⟩))
  all_goals
   go_wp2_with fail
   first
    | (refine (y43 h).mono ?_;rintro e w' ⟨rfl,h⟩)
    | (refine (n43 D.out h).mono ?_;rintro e w' ⟨rfl,h⟩;go_wp2_with fail
       first
        | (refine (y45 h).mono ?_;rintro e w' ⟨rfl,h⟩)
        | (refine (n45 E.out h).mono ?_;rintro e w' ⟨rfl,h⟩))
   go_wp2_with fail
   refine (skd _ _ rfl rfl h).mono ?_;rintro e w' ⟨rfl,h⟩;go_wp2;go_ret;exact ⟨by rw [y.out];rfl,by rw [y.out];exact h⟩
theorem aAg {sb:Nat} {w0 w:World} (s M:List Int) (O:Hid (¬ [48] <+: s)) (S:Hid (s.dropWhile aK=M)) (Y:Hid (dS aK s=true)) (N:Hid (¬ [46] <+: M)) (Z:Hid (gF s=iK (true,M))) (h:St sb w0 w s) :
  Calls prog 159 #[.pointer (some ⟨sb,0,none⟩)] w fun e w'=>e=.returned (.bool (gF s).1)/\St sb w0 w' (gF s).2:=by
 have U:∀ (x:Bool) (w:World),(Op.unary .not (.bool x)).run prog w=.ok (.bool (!x)) w:=fun _ _=>rfl
 go_enter func159,ntmps159
 go_wp2_with fail
 refine (n48 O.out h).mono ?_;rintro e w' ⟨rfl,h⟩
 go_wp2_with fail
 refine (skd _ _ S.out Y.out h).mono ?_;rintro e w' ⟨rfl,h⟩
 go_wp2_with fail
 refine (n46 N.out h).mono ?_;rintro e w' ⟨rfl,h⟩;rcases aGZ M with ⟨X,rfl,y⟩ | ⟨X,rfl,A,y⟩ | ⟨A,G,y⟩
 all_goals try rcases sC X with ⟨t,rfl,J⟩ | ⟨t,rfl,D,J⟩ | ⟨D,E,J⟩
 all_goals
  try rw [J] at y
  replace y:=aB (Z.out.trans y)
  try clear J
  try replace A:=aB A
  try replace G:=aB G
  try replace D:=aB D
  try replace E:=aB E
  go_wp2_with fail
  first
   | (refine (aIn h).mono ?_;rintro e w' ⟨rfl,h⟩)
   | (refine (aIm A.out h).mono ?_;rintro e w' ⟨rfl,h⟩;go_wp2_with fail
      first
       | (refine (y69 h).mono ?_;rintro e w' ⟨rfl,h⟩)
       | (refine (n69 G.out h).mono ?_;rintro e w' ⟨rfl,h⟩;go_wp2;go_ret;exact ⟨by rw [y.out];rfl,by rw [y.out];exact h⟩))
 all_goals
  go_wp2_with fail
  first
   | (refine (y43 h).mono ?_;rintro e w' ⟨rfl,h⟩)
   | (refine (n43 D.out h).mono ?_;rintro e w' ⟨rfl,h⟩;go_wp2_with fail
      first
       | (refine (y45 h).mono ?_;rintro e w' ⟨rfl,h⟩)
       | (refine (n45 E.out h).mono ?_;rintro e w' ⟨rfl,h⟩))
  go_wp2_with fail
  refine (skd _ _ rfl rfl h).mono ?_;rintro e w' ⟨rfl,h⟩;go_wp2;go_ret;exact ⟨by rw [y.out];rfl,by rw [y.out];exact h⟩
theorem yM {sb:Nat} {w0 w:World} (s M S:List Int) (N:Hid (¬ [48] <+: s)) (U:Hid (s.dropWhile aK=[46]++M)) (hh:Hid (dS aK s=false)) (X:Hid (M.dropWhile aK=S)) (O:Hid (dS aK M=true)) (HM:Hid (gF s=iK (true,S))) (h:St sb w0 w s) :
  Calls prog 159 #[.pointer (some ⟨sb,0,none⟩)] w fun e w'=>e=.returned (.bool (gF s).1)/\St sb w0 w' (gF s).2:=by
 have Y:∀ (x:Bool) (w:World),(Op.unary .not (.bool x)).run prog w=.ok (.bool (!x)) w:=fun _ _=>rfl
 go_enter func159,ntmps159
 go_wp2_with fail
 refine (n48 N.out h).mono ?_;rintro e w' ⟨rfl,h⟩
 go_wp2_with fail
 refine (skd _ _ U.out hh.out h).mono ?_;rintro e w' ⟨rfl,h⟩
 go_wp2_with fail
 refine (y46 h).mono ?_;rintro e w' ⟨rfl,h⟩
 go_wp2_with fail
 refine (skd _ _ X.out O.out h).mono ?_;rintro e w' ⟨rfl,h⟩;rcases aGZ S with ⟨Z,rfl,y⟩ | ⟨Z,rfl,A,y⟩ | ⟨A,G,y⟩
 all_goals try rcases sC Z with ⟨t,rfl,J⟩ | ⟨t,rfl,D,J⟩ | ⟨D,E,J⟩
 all_goals
  try rw [J] at y
  replace y:=aB (HM.out.trans y)
  try clear J
  try replace A:=aB A
  try replace G:=aB G
  try replace D:=aB D
  try replace E:=aB E
  go_wp2_with fail
  first
   | (refine (aIn h).mono ?_;rintro e w' ⟨rfl,h⟩)
   | (refine (aIm A.out h).mono ?_;rintro e w' ⟨rfl,h⟩;go_wp2_with fail
      first
       | (refine (y69 h).mono ?_;rintro e w' ⟨rfl,h⟩)
       | (refine (n69 G.out h).mono ?_;rintro e w' ⟨rfl,h⟩;go_wp2;go_ret;exact ⟨by rw [y.out];rfl,by rw [y.out];exact h⟩))
 all_goals
  go_wp2_with fail
  first
   | (refine (y43 h).mono ?_;rintro e w' ⟨rfl,h⟩)
   | (refine (n43 D.out h).mono ?_;rintro e w' ⟨rfl,h⟩;go_wp2_with fail
      first
       | (refine (y45 h).mono ?_;rintro e w' ⟨rfl,h⟩)
       | (refine (n45 E.out h).mono ?_;rintro e w' ⟨rfl,h⟩))
  go_wp2_with fail
  refine (skd _ _ rfl rfl h).mono ?_;rintro e w' ⟨rfl,h⟩;go_wp2;go_ret;exact ⟨by rw [y.out];rfl,by rw [y.out];exact h⟩
theorem yJ {sb:Nat} {w0 w:World} (s y J:List Int) (A:Hid (¬ [48] <+: s)) (D:Hid (s.dropWhile aK=[46]++y)) (O:Hid (dS aK s=false)) (G:Hid (y.dropWhile aK=J)) (E:Hid (dS aK y=false)) (N:Hid (gF s=(false,J))) (h:St sb w0 w s) :
  Calls prog 159 #[.pointer (some ⟨sb,0,none⟩)] w fun e w'=>e=.returned (.bool (gF s).1)/\St sb w0 w' (gF s).2:=by
 have M:∀ (x:Bool) (w:World),(Op.unary .not (.bool x)).run prog w=.ok (.bool (!x)) w:=fun _ _=>rfl
 go_enter func159,ntmps159
 go_wp2_with fail
 refine (n48 A.out h).mono ?_;rintro e w' ⟨rfl,h⟩
 go_wp2_with fail
 refine (skd _ _ D.out O.out h).mono ?_;rintro e w' ⟨rfl,h⟩
 go_wp2_with fail
 refine (y46 h).mono ?_;rintro e w' ⟨rfl,h⟩
 go_wp2_with fail
 refine (skd _ _ G.out E.out h).mono ?_;rintro e w' ⟨rfl,h⟩;go_wp2;go_ret;exact ⟨by rw [N.out];rfl,by rw [N.out];exact h⟩
theorem aAd {sb:Nat} {w0 w:World} (s:List Int) (D:Hid (¬ [48] <+: s)) (A:Hid (s.dropWhile aK=s)) (J:Hid (dS aK s=false)) (y:Hid (¬ [46] <+: s)) (G:Hid (gF s=(false,s))) (h:St sb w0 w s) :
  Calls prog 159 #[.pointer (some ⟨sb,0,none⟩)] w fun e w'=>e=.returned (.bool (gF s).1)/\St sb w0 w' (gF s).2:=by
 have E:∀ (x:Bool) (w:World),(Op.unary .not (.bool x)).run prog w=.ok (.bool (!x)) w:=fun _ _=>rfl
 go_enter func159,ntmps159
 go_wp2_with fail
 refine (n48 D.out h).mono ?_;rintro e w' ⟨rfl,h⟩
 go_wp2_with fail
 refine (skd _ _ A.out J.out h).mono ?_;rintro e w' ⟨rfl,h⟩
 go_wp2_with fail
 refine (n46 y.out h).mono ?_;rintro e w' ⟨rfl,h⟩;go_wp2;go_ret;exact ⟨by rw [G.out];rfl,by rw [G.out];exact h⟩
theorem mL {sb:Nat} {w0 w:World} (s:List Int) (h:St sb w0 w s) :
  Calls prog 159 #[.pointer (some ⟨sb,0,none⟩)] w fun e w'=>e=.returned (.bool (gF s).1)/\St sb w0 w' (gF s).2:=by
 rcases aLP s with ⟨r,S,E⟩ | ⟨X,U,N,E⟩
 ·rcases aIo true r with ⟨M,O,rfl,A,D⟩ | ⟨y,D⟩
  ·exact aAr s M O _ A rfl (by rw [Hid,gF,E,D];simp) (S ▸ h)
  ·exact aAa s r y (by rw [Hid,gF,E,D]) (S ▸ h)
 ·cases J:dS aK s
  ·have e:s.dropWhile aK=s:=by
    cases s with
    | nil=>rfl
    | cons c r=>simp only [dS] at J;simp [J]
   rw [<- N,e,J] at E;rcases aIo false s with ⟨M,O,S,A,D⟩ | ⟨y,D⟩
   ·cases G:dS aK M
    ·exact yJ s M O U (by rw [Hid,e,<- S]) J A G (by rw [Hid,gF,E,D,G];rfl) h
    ·exact yM s M O U (by rw [Hid,e,<- S]) J A G (by rw [Hid,gF,E,D,G];rfl) h
   ·exact aAd s U e J y (by rw [Hid,gF,E,D];rfl) h
  ·rw [J] at E;rcases aIo true X with ⟨M,O,rfl,A,D⟩ | ⟨y,D⟩
   ·exact yQ s M O _ U N J A rfl (by rw [Hid,gF,E,D];simp) h
   ·exact aAg s X U N J y (by rw [Hid,gF,E,D]) h
theorem aBJ (p:Int) (w:World):Calls prog 178 #[.int .i32 p] w fun e w'=>e=.returned (.int .i64 (jF p))/\w=w':=by
 cases h:aK p
 ·by_cases A:97<=p
  ·by_cases J:p<=102
   ·have y:Hid (jF p=p - 97+10):=by simp [Hid,jF,h,A,J]
    go_enter func178,ntmps178
    go_wp2_with (go_at_call 171;refine (fE _ _).mono ?_;rintro e w' ⟨rfl,rfl⟩;rw [h])
    go_ret;exact ⟨by rw [y.out];first | rfl | (congr 2;go_num),rfl⟩
   ·have D:¬ p<=70:=(by omega);have y:Hid (jF p = -1):=(by simp [Hid,jF,h,A,J];omega);have E:65<=p:=by omega
    go_enter func178,ntmps178
    go_wp2_with (go_at_call 171;refine (fE _ _).mono ?_;rintro e w' ⟨rfl,rfl⟩;rw [h])
    go_ret;exact ⟨by rw [y.out];rfl,rfl⟩
  ·by_cases D:65<=p
   ·by_cases E:p<=70
    ·have y:Hid (jF p=p - 65+10):=by simp [Hid,jF,h,A,D,E]
     go_enter func178,ntmps178
     go_wp2_with (go_at_call 171;refine (fE _ _).mono ?_;rintro e w' ⟨rfl,rfl⟩;rw [h])
     go_ret;exact ⟨by rw [y.out];first | rfl | (congr 2;go_num),rfl⟩
    ·have y:Hid (jF p = -1):=by simp [Hid,jF,h,A,D,E]
     go_enter func178,ntmps178
     go_wp2_with (go_at_call 171;refine (fE _ _).mono ?_;rintro e w' ⟨rfl,rfl⟩;rw [h])
     go_ret;exact ⟨by rw [y.out];rfl,rfl⟩
   ·have y:Hid (jF p = -1):=by simp [Hid,jF,h,A,D]
    go_enter func178,ntmps178
    go_wp2_with (go_at_call 171;refine (fE _ _).mono ?_;rintro e w' ⟨rfl,rfl⟩;rw [h])
    go_ret;exact ⟨by rw [y.out];rfl,rfl⟩
 ·have y:Hid (jF p=p - 48):=(by simp [Hid,jF,h]);have G:48<=p/\p<=57:=(by simpa [aK] using h);obtain ⟨N,M⟩:=G
  go_enter func178,ntmps178
  go_wp2_with (go_at_call 171;refine (fE _ _).mono ?_;rintro e w' ⟨rfl,rfl⟩;rw [h])
  go_ret;exact ⟨by rw [y.out];first | rfl | (congr 2;go_num),rfl⟩
theorem yD (p:Int) (w:World):Calls prog 158 #[.int .i32 p] w fun e w'=>e=.returned (.bool (eE p))/\w=w':=by
 go_enter func158,ntmps158
 go_wp2_with (go_at_call 178;refine (aBJ _ _).mono ?_;rintro e w' ⟨rfl,rfl⟩)
 go_ret;exact ⟨rfl,rfl⟩
theorem aHQ:aJt 158 eE:=⟨fun p W=>yD p W,fun args W=>by kernel_rfl⟩
theorem aJK:Asc eE:=fun p h=>by
 have h:0<=jF p:=of_decide_eq_true h;unfold jF at h
 split at h
 ·rename_i hd;simp [aK] at hd;omega
 ·split at h
  ·omega
  ·split at h
   ·omega
   ·omega
theorem qR {l:List Int} (h:l.all (fun z=>decide (0<=z/\z<=255))=true):Bys l:=fun z y=>by
 have:=List.all_eq_true.1 h z y;simpa using this
theorem aKP {sb:Nat} {w0 w:World} {r:List Int} (h:St sb w0 w ([73,110,102,105,110,105,116,121]++r)) :
  Calls prog 156 #[.pointer (some ⟨sb,0,none⟩),.string { data:=#[73,110,102,105,110,105,116,121] }] w fun e w'=>e=.returned (.bool true)/\St sb w0 w' r:=eW [73,110,102,105,110,105,116,121] r (qR (by decide)) (by simp) h
theorem xE {sb:Nat} {w0 w:World} {s:List Int} (y:¬ [73,110,102,105,110,105,116,121] <+: s) (h:St sb w0 w s) :
  Calls prog 156 #[.pointer (some ⟨sb,0,none⟩),.string { data:=#[73,110,102,105,110,105,116,121] }] w fun e w'=>e=.returned (.bool false)/\St sb w0 w' s:=fZ [73,110,102,105,110,105,116,121] s (qR (by decide)) (by simp) y h
theorem aLJ {sb:Nat} {w0 w:World} {r:List Int} (h:St sb w0 w ([78,97,78]++r)) :
  Calls prog 156 #[.pointer (some ⟨sb,0,none⟩),.string { data:=#[78,97,78] }] w fun e w'=>e=.returned (.bool true)/\St sb w0 w' r:=eW [78,97,78] r (qR (by decide)) (by simp) h
theorem aCH {sb:Nat} {w0 w:World} {s:List Int} (y:¬ [78,97,78] <+: s) (h:St sb w0 w s) :
  Calls prog 156 #[.pointer (some ⟨sb,0,none⟩),.string { data:=#[78,97,78] }] w fun e w'=>e=.returned (.bool false)/\St sb w0 w' s:=fZ [78,97,78] s (qR (by decide)) (by simp) y h
theorem yx {sb:Nat} {w0 w:World} {r:List Int} (h:St sb w0 w ([48,120]++r)) :
  Calls prog 156 #[.pointer (some ⟨sb,0,none⟩),.string { data:=#[48,120] }] w fun e w'=>e=.returned (.bool true)/\St sb w0 w' r:=eW [48,120] r (qR (by decide)) (by simp) h
theorem nx {sb:Nat} {w0 w:World} {s:List Int} (y:¬ [48,120] <+: s) (h:St sb w0 w s) :
  Calls prog 156 #[.pointer (some ⟨sb,0,none⟩),.string { data:=#[48,120] }] w fun e w'=>e=.returned (.bool false)/\St sb w0 w' s:=fZ [48,120] s (qR (by decide)) (by simp) y h
theorem yX {sb:Nat} {w0 w:World} {r:List Int} (h:St sb w0 w ([48,88]++r)) :
  Calls prog 156 #[.pointer (some ⟨sb,0,none⟩),.string { data:=#[48,88] }] w fun e w'=>e=.returned (.bool true)/\St sb w0 w' r:=eW [48,88] r (qR (by decide)) (by simp) h
theorem nX {sb:Nat} {w0 w:World} {s:List Int} (y:¬ [48,88] <+: s) (h:St sb w0 w s) :
  Calls prog 156 #[.pointer (some ⟨sb,0,none⟩),.string { data:=#[48,88] }] w fun e w'=>e=.returned (.bool false)/\St sb w0 w' s:=fZ [48,88] s (qR (by decide)) (by simp) y h
theorem skh {sb:Nat} {w0 w:World} {s:List Int} (h:St sb w0 w s) :
  Calls prog 157 #[.pointer (some ⟨sb,0,none⟩),.func (.func 158) #[] #[]] w fun e w'=>e=.returned (.bool (dS eE s))/\St sb w0 w' (s.dropWhile eE):=aE8 _ eE aHQ aJK s h
theorem aKO (s:List Int):(∃ r,s=[73,110,102,105,110,105,116,121]++r/\kI s=(true,r))\/
  (¬ [73,110,102,105,110,105,116,121] <+: s/\∃ r,s=[78,97,78]++r/\kI s=(true,r))\/
  (¬ [73,110,102,105,110,105,116,121] <+: s/\¬ [78,97,78] <+: s/\∃ r,s=[48,120]++r/\kI s=(dS eE r,r.dropWhile eE))\/
  (¬ [73,110,102,105,110,105,116,121] <+: s/\¬ [78,97,78] <+: s/\¬ [48,120] <+: s/\∃ r,s=[48,88]++r/\kI s=(dS eE r,r.dropWhile eE))\/
  (¬ [73,110,102,105,110,105,116,121] <+: s/\¬ [78,97,78] <+: s/\¬ [48,120] <+: s/\¬ [48,88] <+: s/\kI s=gF s):=by
 by_cases h:nP <+: s
 ·obtain ⟨r,rfl⟩:=id h;exact .inl ⟨r,rfl,by unfold kI;rw [if_pos h];rfl⟩
 ·by_cases y:nan <+: s
  ·obtain ⟨r,rfl⟩:=id y;exact .inr (.inl ⟨h,r,rfl,by unfold kI;rw [if_neg h,if_pos y];rfl⟩)
  ·by_cases A:[48,120] <+: s
   ·obtain ⟨r,rfl⟩:=id A;refine .inr (.inr (.inl ⟨h,y,r,rfl,?_⟩));unfold kI;rw [if_neg h,if_neg y];simp [isX,yI]
   ·by_cases D:[48,88] <+: s
    ·obtain ⟨r,rfl⟩:=id D;refine .inr (.inr (.inr (.inl ⟨h,y,A,r,rfl,?_⟩)));unfold kI;rw [if_neg h,if_neg y];simp [isX,yI]
    ·refine .inr (.inr (.inr (.inr ⟨h,y,A,D,?_⟩)));unfold kI;rw [if_neg h,if_neg y]
     match s,A,D with
     | [],_,_=>rfl
     | [c],_,_=>rfl
     | c::x::r,A,D=>
       simp only;rw [if_neg];rintro ⟨rfl,G⟩;have E:x=120\/x=88:=(by simpa [isX] using G);rcases E with rfl | rfl
       ·exact A ⟨r,rfl⟩
       ·exact D ⟨r,rfl⟩
theorem aAQ {sb:Nat} {w0 w:World} (s:List Int) (h:St sb w0 w s) :
  Calls prog 144 #[.pointer (some ⟨sb,0,none⟩)] w fun e w'=>e=.returned (.bool (kI (strip s)).1)/\St sb w0 w' (kI (strip s)).2:=by
 rcases sC s with ⟨t,rfl,Y⟩ | ⟨t,rfl,S,Y⟩ | ⟨S,Z,Y⟩
 ·rw [Y];clear Y;rcases aKO t with ⟨r,A,y⟩ | ⟨D,r,A,y⟩ | ⟨D,E,r,A,y⟩ | ⟨D,E,N,r,A,y⟩ | ⟨D,E,N,h2,y⟩
  ·rw [y];clear y;have M:=aB A;clear A
   go_enter func144,ntmps144
   go_wp2_with fail
   refine (y43 h).mono ?_;rintro e w' ⟨rfl,h⟩
   go_wp2_with fail
   refine (aKP (M.out ▸ h)).mono ?_;rintro e w' ⟨rfl,h⟩;go_wp2;go_ret;exact ⟨rfl,h⟩
  ·rw [y];have G:=aB D;clear y D;have M:=aB A;clear A
   go_enter func144,ntmps144
   go_wp2_with fail
   refine (y43 h).mono ?_;rintro e w' ⟨rfl,h⟩
   go_wp2_with fail
   refine (xE G.out h).mono ?_;rintro e w' ⟨rfl,h⟩
   go_wp2_with fail
   refine (aLJ (M.out ▸ h)).mono ?_;rintro e w' ⟨rfl,h⟩;go_wp2;go_ret;exact ⟨rfl,h⟩
  ·rw [y];have G:=aB D;have O:=aB E;clear y D E;have M:=aB A;clear A
   go_enter func144,ntmps144
   go_wp2_with fail
   refine (y43 h).mono ?_;rintro e w' ⟨rfl,h⟩
   go_wp2_with fail
   refine (xE G.out h).mono ?_;rintro e w' ⟨rfl,h⟩
   go_wp2_with fail
   refine (aCH O.out h).mono ?_;rintro e w' ⟨rfl,h⟩
   go_wp2_with fail
   refine (yx (M.out ▸ h)).mono ?_;rintro e w' ⟨rfl,h⟩
   go_wp2_with fail
   refine (skh h).mono ?_;rintro e w' ⟨rfl,h⟩;go_wp2;go_ret;exact ⟨rfl,h⟩
  ·rw [y];have G:=aB D;have O:=aB E;have U:=aB N;clear y D E N;have M:=aB A;clear A
   go_enter func144,ntmps144
   go_wp2_with fail
   refine (y43 h).mono ?_;rintro e w' ⟨rfl,h⟩
   go_wp2_with fail
   refine (xE G.out h).mono ?_;rintro e w' ⟨rfl,h⟩
   go_wp2_with fail
   refine (aCH O.out h).mono ?_;rintro e w' ⟨rfl,h⟩
   go_wp2_with fail
   refine (nx U.out h).mono ?_;rintro e w' ⟨rfl,h⟩
   go_wp2_with fail
   refine (yX (M.out ▸ h)).mono ?_;rintro e w' ⟨rfl,h⟩
   go_wp2_with fail
   refine (skh h).mono ?_;rintro e w' ⟨rfl,h⟩;go_wp2;go_ret;exact ⟨rfl,h⟩
  ·rw [y];have G:=aB D;have O:=aB E;have U:=aB N;have H2:=aB h2;clear y D E N h2
   go_enter func144,ntmps144
   go_wp2_with fail
   refine (y43 h).mono ?_;rintro e w' ⟨rfl,h⟩
   go_wp2_with fail
   refine (xE G.out h).mono ?_;rintro e w' ⟨rfl,h⟩
   go_wp2_with fail
   refine (aCH O.out h).mono ?_;rintro e w' ⟨rfl,h⟩
   go_wp2_with fail
   refine (nx U.out h).mono ?_;rintro e w' ⟨rfl,h⟩
   go_wp2_with fail
   refine (nX H2.out h).mono ?_;rintro e w' ⟨rfl,h⟩
   go_wp2_with fail
   refine (mL _ h).mono ?_;rintro e w' ⟨rfl,h⟩;go_wp2;go_ret;exact ⟨rfl,h⟩
 ·rw [Y];have J:=aB S;clear Y S;rcases aKO t with ⟨r,A,y⟩ | ⟨D,r,A,y⟩ | ⟨D,E,r,A,y⟩ | ⟨D,E,N,r,A,y⟩ | ⟨D,E,N,h2,y⟩
  ·rw [y];clear y;have M:=aB A;clear A
   go_enter func144,ntmps144
   go_wp2_with fail
   refine (n43 J.out h).mono ?_;rintro e w' ⟨rfl,h⟩
   go_wp2_with fail
   refine (y45 h).mono ?_;rintro e w' ⟨rfl,h⟩
   go_wp2_with fail
   refine (aKP (M.out ▸ h)).mono ?_;rintro e w' ⟨rfl,h⟩;go_wp2;go_ret;exact ⟨rfl,h⟩
  ·rw [y];have G:=aB D;clear y D;have M:=aB A;clear A
   go_enter func144,ntmps144
   go_wp2_with fail
   refine (n43 J.out h).mono ?_;rintro e w' ⟨rfl,h⟩
   go_wp2_with fail
   refine (y45 h).mono ?_;rintro e w' ⟨rfl,h⟩
   go_wp2_with fail
   refine (xE G.out h).mono ?_;rintro e w' ⟨rfl,h⟩
   go_wp2_with fail
   refine (aLJ (M.out ▸ h)).mono ?_;rintro e w' ⟨rfl,h⟩;go_wp2;go_ret;exact ⟨rfl,h⟩
  ·rw [y];have G:=aB D;have O:=aB E;clear y D E;have M:=aB A;clear A
   go_enter func144,ntmps144
   go_wp2_with fail
   refine (n43 J.out h).mono ?_;rintro e w' ⟨rfl,h⟩
   go_wp2_with fail
   refine (y45 h).mono ?_;rintro e w' ⟨rfl,h⟩
   go_wp2_with fail
   refine (xE G.out h).mono ?_;rintro e w' ⟨rfl,h⟩
   go_wp2_with fail
   refine (aCH O.out h).mono ?_;rintro e w' ⟨rfl,h⟩
   go_wp2_with fail
   refine (yx (M.out ▸ h)).mono ?_;rintro e w' ⟨rfl,h⟩
   go_wp2_with fail
   refine (skh h).mono ?_;rintro e w' ⟨rfl,h⟩;go_wp2;go_ret;exact ⟨rfl,h⟩
  ·rw [y];have G:=aB D;have O:=aB E;have U:=aB N;clear y D E N;have M:=aB A;clear A
   go_enter func144,ntmps144
   go_wp2_with fail
   refine (n43 J.out h).mono ?_;rintro e w' ⟨rfl,h⟩
   go_wp2_with fail
   refine (y45 h).mono ?_;rintro e w' ⟨rfl,h⟩
   go_wp2_with fail
   refine (xE G.out h).mono ?_;rintro e w' ⟨rfl,h⟩
   go_wp2_with fail
   refine (aCH O.out h).mono ?_;rintro e w' ⟨rfl,h⟩
   go_wp2_with fail
   refine (nx U.out h).mono ?_;rintro e w' ⟨rfl,h⟩
   go_wp2_with fail
   refine (yX (M.out ▸ h)).mono ?_;rintro e w' ⟨rfl,h⟩
   go_wp2_with fail
   refine (skh h).mono ?_;rintro e w' ⟨rfl,h⟩;go_wp2;go_ret;exact ⟨rfl,h⟩
  ·rw [y];have G:=aB D;have O:=aB E;have U:=aB N;have H2:=aB h2;clear y D E N h2
   go_enter func144,ntmps144
   go_wp2_with fail
   refine (n43 J.out h).mono ?_;rintro e w' ⟨rfl,h⟩
   go_wp2_with fail
   refine (y45 h).mono ?_;rintro e w' ⟨rfl,h⟩
   go_wp2_with fail
   refine (xE G.out h).mono ?_;rintro e w' ⟨rfl,h⟩
   go_wp2_with fail
   refine (aCH O.out h).mono ?_;rintro e w' ⟨rfl,h⟩
   go_wp2_with fail
   refine (nx U.out h).mono ?_;rintro e w' ⟨rfl,h⟩
   go_wp2_with fail
   refine (nX H2.out h).mono ?_;rintro e w' ⟨rfl,h⟩
   go_wp2_with fail
   refine (mL _ h).mono ?_;rintro e w' ⟨rfl,h⟩;go_wp2;go_ret;exact ⟨rfl,h⟩
 ·rw [Y];have J:=aB S;have X:=aB Z;clear Y S Z;rcases aKO s with ⟨r,A,y⟩ | ⟨D,r,A,y⟩ | ⟨D,E,r,A,y⟩ | ⟨D,E,N,r,A,y⟩ | ⟨D,E,N,h2,y⟩
  ·rw [y];clear y;have M:=aB A;clear A
   go_enter func144,ntmps144
   go_wp2_with fail
   refine (n43 J.out h).mono ?_;rintro e w' ⟨rfl,h⟩
   go_wp2_with fail
   refine (n45 X.out h).mono ?_;rintro e w' ⟨rfl,h⟩
   go_wp2_with fail
   refine (aKP (M.out ▸ h)).mono ?_;rintro e w' ⟨rfl,h⟩;go_wp2;go_ret;exact ⟨rfl,h⟩
  ·rw [y];have G:=aB D;clear y D;have M:=aB A;clear A
   go_enter func144,ntmps144
   go_wp2_with fail
   refine (n43 J.out h).mono ?_;rintro e w' ⟨rfl,h⟩
   go_wp2_with fail
   refine (n45 X.out h).mono ?_;rintro e w' ⟨rfl,h⟩
   go_wp2_with fail
   refine (xE G.out h).mono ?_;rintro e w' ⟨rfl,h⟩
   go_wp2_with fail
   refine (aLJ (M.out ▸ h)).mono ?_;rintro e w' ⟨rfl,h⟩;go_wp2;go_ret;exact ⟨rfl,h⟩
  ·rw [y];have G:=aB D;have O:=aB E;clear y D E;have M:=aB A;clear A
   go_enter func144,ntmps144
   go_wp2_with fail
   refine (n43 J.out h).mono ?_;rintro e w' ⟨rfl,h⟩
   go_wp2_with fail
   refine (n45 X.out h).mono ?_;rintro e w' ⟨rfl,h⟩
   go_wp2_with fail
   refine (xE G.out h).mono ?_;rintro e w' ⟨rfl,h⟩
   go_wp2_with fail
   refine (aCH O.out h).mono ?_;rintro e w' ⟨rfl,h⟩
   go_wp2_with fail
   refine (yx (M.out ▸ h)).mono ?_;rintro e w' ⟨rfl,h⟩
   go_wp2_with fail
   refine (skh h).mono ?_;rintro e w' ⟨rfl,h⟩;go_wp2;go_ret;exact ⟨rfl,h⟩
  ·rw [y];have G:=aB D;have O:=aB E;have U:=aB N;clear y D E N;have M:=aB A;clear A
   go_enter func144,ntmps144
   go_wp2_with fail
   refine (n43 J.out h).mono ?_;rintro e w' ⟨rfl,h⟩
   go_wp2_with fail
   refine (n45 X.out h).mono ?_;rintro e w' ⟨rfl,h⟩
   go_wp2_with fail
   refine (xE G.out h).mono ?_;rintro e w' ⟨rfl,h⟩
   go_wp2_with fail
   refine (aCH O.out h).mono ?_;rintro e w' ⟨rfl,h⟩
   go_wp2_with fail
   refine (nx U.out h).mono ?_;rintro e w' ⟨rfl,h⟩
   go_wp2_with fail
   refine (yX (M.out ▸ h)).mono ?_;rintro e w' ⟨rfl,h⟩
   go_wp2_with fail
   refine (skh h).mono ?_;rintro e w' ⟨rfl,h⟩;go_wp2;go_ret;exact ⟨rfl,h⟩
  ·rw [y];have G:=aB D;have O:=aB E;have U:=aB N;have H2:=aB h2;clear y D E N h2
   go_enter func144,ntmps144
   go_wp2_with fail
   refine (n43 J.out h).mono ?_;rintro e w' ⟨rfl,h⟩
   go_wp2_with fail
   refine (n45 X.out h).mono ?_;rintro e w' ⟨rfl,h⟩
   go_wp2_with fail
   refine (xE G.out h).mono ?_;rintro e w' ⟨rfl,h⟩
   go_wp2_with fail
   refine (aCH O.out h).mono ?_;rintro e w' ⟨rfl,h⟩
   go_wp2_with fail
   refine (nx U.out h).mono ?_;rintro e w' ⟨rfl,h⟩
   go_wp2_with fail
   refine (nX H2.out h).mono ?_;rintro e w' ⟨rfl,h⟩
   go_wp2_with fail
   refine (mL _ h).mono ?_;rintro e w' ⟨rfl,h⟩;go_wp2;go_ret;exact ⟨rfl,h⟩
theorem wD (v:Value) (zs:List Int) (w:World) (hv:RdB w.heap.size w v zs) (N:Sl v zs.length) (Y:Bys zs) (U:zs.length<=1048576) (J:Tab w) :
  Calls prog 123 #[v] w fun e w'=>e=.returned (.bool (dE zs))/\w.grownBy w' none:=by
 have E:=World.grownBy_alloc w (.cells #[v,.int .i64 0] 213) none;have h:=J.pos
 have D:St w.heap.size (w.alloc (.cells #[v,.int .i64 0] 213)) (w.alloc (.cells #[v,.int .i64 0] 213)) zs:=
  ⟨v,zs,0,Nat.zero_le _,by simp,by simpa using aH1 w v 0,⟨hv.K E,N,Y,U⟩,J.K E,h,World.grownBy.refl _ _⟩
 have M:=aB (aAQ zs D);have O:=aB E;have HV:Hid (dE zs=((kI (strip zs)).1&&decide ((kI (strip zs)).2=[]))):=rfl;obtain ⟨a,cap,rfl,_⟩:=hv;clear D E h J N;generalize kI (strip zs)=u at M HV;obtain ⟨u1,u2⟩:=u;cases u1
 ·go_enter func123,ntmps123
  go_wp2_with fail
  refine M.out.mono ?_;rintro e S ⟨rfl,y⟩;have A:=(by obtain ⟨_,_,_,_,_,_,_,_,_,g⟩:=y;exact g:World.grownBy _ S _);have G:=aB (tC O.out (Nat.le_refl _) A);clear y A;go_wp2;go_ret;exact ⟨by rw [HV.out];rfl,G.out⟩
 ·go_enter func123,ntmps123
  go_wp2_with fail
  refine M.out.mono ?_;rintro e S ⟨rfl,y⟩
  go_wp2_with fail
  refine (aIi _ y).mono ?_;rintro e X ⟨rfl,y⟩;have A:=(by obtain ⟨_,_,_,_,_,_,_,_,_,g⟩:=y;exact g:World.grownBy _ X _);have G:=aB (tC O.out (Nat.le_refl _) A);clear y A;go_wp2;go_ret;exact ⟨by rw [HV.out];rfl,G.out⟩
end Go.Proofs.YtmfehflibkokbaaGreatDoor
