import Derived.Deep.RegionWith
import Derived.Laws.BytesArg
import Derived.Laws.IdiomStrings
import Derived.Test.YtgifkcpdihphlaaGreatDoorMAB
set_option maxHeartbeats 16000000
set_option maxRecDepth 100000
namespace Go.Proofs.YtgifkcpdihphlaaGreatDoor
open Tryz
open Go.RowKit
theorem zZ (k d q:Nat) (j:∀ m:Nat,m<256->(m &&& k=q ↔ m / d=q / d)) (y:k<256) (z:Int) (u:0<=z) (A:z<=255) :
  (bits .and .u8 z (k:Int)==(q:Int))=decide (z / (d:Int)=((q / d:Nat):Int)):=by
 obtain ⟨n,rfl⟩:=Int.eq_ofNat_of_zero_le u;have h:=j n (by omega);rw [u8_and_nat n k (by omega) y,Bool.eq_iff_iff];simp only [beq_iff_eq,decide_eq_true_eq];rw [<- Int.natCast_ediv];omega
theorem aHV (z:Int) (h:0<=z) (j:z<=255):(bits .and .u8 z 248==240)=decide (z / 8=30):=zZ 248 8 240 (by decide) (by omega) z h j
theorem aJt (z:Int) (h:0<=z) (j:z<=255):(bits .and .u8 z 240==224)=decide (z / 16=14):=zZ 240 16 224 (by decide) (by omega) z h j
theorem aIm (z:Int) (h:0<=z) (j:z<=255):(bits .and .u8 z 224==192)=decide (z / 32=6):=zZ 224 32 192 (by decide) (by omega) z h j
theorem zA (w:World) (p:Int):Frm w.heap.size (w.alloc (.cells #[.int .i32 p,.int .i64 1,.bool false] 234)) p 1 false:=heap_alloc_new w _
theorem iJ (w:World) (o:Obj):Below w.heap.size w (w.alloc o):=(Below.refl _ _).alloc (Nat.le_refl _) _
theorem Rd.below {q:IntKind} {B:Nat} {w w':World} {v:Value} {zs:List Int} (h:Rd q B w v zs) (D:Below B w w'):Rd q B w' v zs:=by
 obtain ⟨a,cap,hv,A⟩:=h;refine ⟨a,cap,hv,fun G=>?_⟩;obtain ⟨b,off,E,u,y⟩:=A G;exact ⟨b,off,E,u,fun j H=>(D.cell (p:=⟨b,off+j,none⟩) u).trans (y j H)⟩
theorem aNb (b off cap:Nat) (zs:List Int) (w:World) (hT:Tab w) (hv:RdB w.heap.size w (.slice (some ⟨b,off,none⟩) zs.length cap) zs) (u:Bys zs) (hm:zs.length<=4194304) (E:0<zs.length) (d5:b<w.heap.size)
  (c8:w.cell? ⟨b,off,none⟩=some (.int .u8 (zs[0]?.getD 0)))
  (hc:zs[0]?.getD 0 / 8=30) :
  Calls prog 157 #[.slice (some ⟨b,off,none⟩) zs.length cap] w fun e w'=>e=.returned (.tuple #[.int .i32 (fpP zs),.int .i64 (aM zs)])/\Below w.heap.size w w':=by
 have G:Hid (zs[0]?.getD 0 / 8=30):=hc;have J:=u.get 0;generalize O:zs[0]?.getD 0=c at c8 J hc;have t4:(bits .and .u8 c 248==240)=true:=(by rw [aHV c J.1 J.2];simp;omega);have t3:(bits .and .u8 c 240==224)=false:=(by rw [aJt c J.1 J.2];simp;omega);have t2:(bits .and .u8 c 224==192)=false:=(by rw [aIm c J.1 J.2];simp;omega);have t1:128<=c:=(by omega);obtain ⟨i3,h3⟩:=J;have f5:Hid (zs[0]?.getD 0=c):=O;clear hc O;have g7:(0:Int)<(zs.length:Int):=(by omega);have g5:∀ o,(w.alloc o).cell? ⟨b,off,none⟩=some (.int .u8 c):=fun o=>(World.cell?_alloc_past _ _ _ d5).trans c8
 go_enter func157,ntmps157
 go_wp2_with fail
 have f0:=zA w c;have B0:=iJ w (.cells #[.int .i32 c,.int .i64 1,.bool false] 234);have v0:=hv.below B0;generalize w.alloc (.cells #[.int .i32 c,.int .i64 1,.bool false] 234)=W0 at f0 B0 v0
 by_cases g1:eF zs 1
 ·have h7:=u.get 1;refine (mI w.heap.size _ zs c 1 false W0 f0 v0 u hm (by omega) g1.1 g1.2 (by omega) (by omega)).mono ?_;rintro e W1 ⟨rfl,fn,A⟩;obtain ⟨x1,U⟩:∃ x,x=c*64+zs[1]?.getD 0%64:=⟨_,rfl⟩;have f1:Frm w.heap.size W1 x1 2 false:=(by rw [U];simpa using fn);have X:=v0.below A;have B1:=B0.trans A;have g8:0<=x1/\x1<16384:=(by omega);have f9:Hid (x1=c*64+zs[1]?.getD 0%64):=U;clear U fn f0 v0 B0 A
  go_wp2_with fail
  by_cases g2:eF zs 2
  ·have h5:=u.get 2;refine (mI w.heap.size _ zs x1 2 false W1 f1 X u hm (by omega) g2.1 g2.2 (by omega) (by omega)).mono ?_;rintro e W2 ⟨rfl,fn,A⟩;obtain ⟨x2,U⟩:∃ x,x=x1*64+zs[2]?.getD 0%64:=⟨_,rfl⟩;have f2:Frm w.heap.size W2 x2 3 false:=(by rw [U];simpa using fn);have M:=X.below A;have Z:=B1.trans A;have g6:0<=x2/\x2<1048576:=(by omega);have f8:Hid (x2=x1*64+zs[2]?.getD 0%64):=U;clear U fn f1 X B1 A
   go_wp2_with fail
   by_cases g3:eF zs 3
   ·have i0:=u.get 3;refine (mI w.heap.size _ zs x2 3 false W2 f2 M u hm (by omega) g3.1 g3.2 (by omega) (by omega)).mono ?_;rintro e W3 ⟨rfl,fn,A⟩;obtain ⟨x3,U⟩:∃ x,x=x2*64+zs[3]?.getD 0%64:=⟨_,rfl⟩;have N:Frm w.heap.size W3 x3 4 false:=(by rw [U];simpa using fn);have v3:=M.below A;have Y:=Z.trans A;have g4:0<=x3/\x3<67108864:=(by omega);have d6:Hid (x3=x2*64+zs[3]?.getD 0%64):=U;clear U fn f2 M Z A;obtain ⟨y,hy⟩:∃ y,y=((zs[0]?.getD 0%8*64+zs[1]?.getD 0%64)*64+zs[2]?.getD 0%64)*64+zs[3]?.getD 0%64:=⟨_,rfl⟩;have d8:=u.get 0;have c7:=u.get 1;have d1:=u.get 2;have c9:=u.get 3;have d2:=G.out;have b6:0<=y:=(by omega);have g9:y<2097152:=(by omega);have a4:Hid (lv zs 4=y):=(by unfold Hid;rw [hy];exact lv4 d2 g1 g2 g3);have HY:Hid (y=((zs[0]?.getD 0%8*64+zs[1]?.getD 0%64)*64+zs[2]?.getD 0%64)*64+zs[3]?.getD 0%64):=hy;clear hy d2 d8 c7 d1 c9;have q0:=N.c0;have q1:=N.c1;have q2:=N.c2;have b5:=hT.below Y hT.pos;have e1:=b5.c4;have e2:=b5.c3;clear N v3 hT b5
    have g0:bits .and .i32 x3 2097151=y:=by
     rw [show bits .and .i32 x3 2097151=x3%2097152 by simpa using oD 21 (by omega) x3 (by omega) (by omega)];have h0:=G.out;have O:=f5.out;rw [O] at h0;rw [HY.out,O];have c7:=u.get 1;have h8:=f9.out;have d1:=u.get 2;have h9:=f8.out;have c9:=u.get 3;have h6:=d6.out;omega
    go_wp2
    go_quiet (fail)
    by_cases b0:y<65536
    ·have D:¬ hit zs 4=true:=fun h=>((xN).1 ((fQ a4.out b6).1 h)).1 b0
     have H:Hid (aM zs=0):=by
      unfold Hid;rw [bL (n:=4) (by omega) (by omega) (fun m L S E=>cL (kY G.out m L S E)),if_neg D]
     have HP:Hid (fpP zs = -1):=eS H.out;clear D;go_wp2;go_ret2;exact ⟨by rw [HP.out,H.out];rfl,below_drewN Y _⟩
    ·cases ho:bW y
     ·have D:¬ hit zs 4=true:=fun h=>by
       have:=((xN).1 ((fQ a4.out b6).1 h)).2;rw [ho] at this;cases this
      have H:Hid (aM zs=0):=by
       unfold Hid;rw [bL (n:=4) (by omega) (by omega) (fun m L S E=>cL (kY G.out m L S E)),if_neg D]
      have HP:Hid (fpP zs = -1):=eS H.out;clear D
      go_wp2_with (go_at_call 170;refine (eU _ _).mono ?_;rintro e w' ⟨rfl,rfl⟩;rw [ho])
      go_ret2;exact ⟨by rw [HP.out,H.out];rfl,below_drewN Y _⟩
     ·have D:hit zs 4=true:=(fQ a4.out b6).2 ((xN).2 ⟨b0,ho⟩)
      have H:Hid (aM zs=4):=by
       unfold Hid;rw [bL (n:=4) (by omega) (by omega) (fun m L S E=>cL (kY G.out m L S E)),if_pos D]
      have HP:Hid (fpP zs=y):=uQ (by omega) H.out a4.out;clear D
      go_wp2_with (go_at_call 170;refine (eU _ _).mono ?_;rintro e w' ⟨rfl,rfl⟩;rw [ho])
      go_quiet (fail)
      go_wp2;go_ret2;exact ⟨by rw [HP.out,H.out];rfl,below_drewN (below_drewN Y _) _⟩
   ·refine (fB w.heap.size _ zs x2 3 false W2 f2 M u hm (by omega) (by by_cases h:zs.length<=3;exact .inl h;exact .inr fun e=>g3 ⟨by omega,e⟩)).mono ?_;rintro e W3 ⟨rfl,N,A⟩;have v3:=M.below A;have Y:=Z.trans A;clear f2 M Z A;have q2:=N.c2;clear N v3;go_wp2;go_ret2;have H:aM zs=0:=(by rw [bL (n:=4) (by omega) (by omega) (fun m L S E=>cL (kY G.out m L S E)),sQ (uE 3 (by omega) (by omega) (fun j L h2=>by rcases (show j=1\/j=2 by omega) with rfl | rfl<;>assumption) g3)];rfl);exact ⟨by rw [eS H,H];rfl,Y⟩
  ·refine (fB w.heap.size _ zs x1 2 false W1 f1 X u hm (by omega) (by by_cases h:zs.length<=2;exact .inl h;exact .inr fun e=>g2 ⟨by omega,e⟩)).mono ?_;rintro e W2 ⟨rfl,f2,A⟩;have M:=X.below A;have Z:=B1.trans A;clear f1 X B1 A
   go_wp2_with fail
   refine (fB w.heap.size _ zs x1 2 true W2 f2 M u hm (by omega) (by by_cases h:zs.length<=2;exact .inl h;exact .inr fun e=>g2 ⟨by omega,e⟩)).mono ?_;rintro e W3 ⟨rfl,N,A⟩;have v3:=M.below A;have Y:=Z.trans A;clear f2 M Z A;have q2:=N.c2;clear N v3;go_wp2;go_ret2;have H:aM zs=0:=(by rw [bL (n:=4) (by omega) (by omega) (fun m L S E=>cL (kY G.out m L S E)),sQ (uE 2 (by omega) (by omega) (fun j L h2=>by rcases (show j=1 by omega) with rfl;exact g1) g2)];rfl);exact ⟨by rw [eS H,H];rfl,Y⟩
 ·refine (fB w.heap.size _ zs c 1 false W0 f0 v0 u hm (by omega) (by by_cases h:zs.length<=1;exact .inl h;exact .inr fun e=>g1 ⟨by omega,e⟩)).mono ?_;rintro e W1 ⟨rfl,f1,A⟩;have X:=v0.below A;have B1:=B0.trans A;clear f0 v0 B0 A
  go_wp2_with fail
  refine (fB w.heap.size _ zs c 1 true W1 f1 X u hm (by omega) (by by_cases h:zs.length<=1;exact .inl h;exact .inr fun e=>g1 ⟨by omega,e⟩)).mono ?_;rintro e W2 ⟨rfl,f2,A⟩;have M:=X.below A;have Z:=B1.trans A;clear f1 X B1 A
  go_wp2_with fail
  refine (fB w.heap.size _ zs c 1 true W2 f2 M u hm (by omega) (by by_cases h:zs.length<=1;exact .inl h;exact .inr fun e=>g1 ⟨by omega,e⟩)).mono ?_;rintro e W3 ⟨rfl,N,A⟩;have v3:=M.below A;have Y:=Z.trans A;clear f2 M Z A;have q2:=N.c2;clear N v3;go_wp2;go_ret2;have H:aM zs=0:=(by rw [bL (n:=4) (by omega) (by omega) (fun m L S E=>cL (kY G.out m L S E)),sQ (uE 1 (by omega) (by omega) (fun j L h2=>absurd h2 (by omega)) g1)];rfl);exact ⟨by rw [eS H,H];rfl,Y⟩
theorem aNc (b off cap:Nat) (zs:List Int) (w:World) (hT:Tab w) (hv:RdB w.heap.size w (.slice (some ⟨b,off,none⟩) zs.length cap) zs) (u:Bys zs) (hm:zs.length<=4194304) (D:0<zs.length) (c8:b<w.heap.size)
  (b7:w.cell? ⟨b,off,none⟩=some (.int .u8 (zs[0]?.getD 0)))
  (hc:zs[0]?.getD 0 / 16=14) :
  Calls prog 157 #[.slice (some ⟨b,off,none⟩) zs.length cap] w fun e w'=>e=.returned (.tuple #[.int .i32 (fpP zs),.int .i64 (aM zs)])/\Below w.heap.size w w':=by
 have H:Hid (zs[0]?.getD 0 / 16=14):=hc;have G:=u.get 0;generalize L:zs[0]?.getD 0=c at b7 G hc;have t4:(bits .and .u8 c 248==240)=false:=(by rw [aHV c G.1 G.2];simp;omega);have t3:(bits .and .u8 c 240==224)=true:=(by rw [aJt c G.1 G.2];simp;omega);have t2:(bits .and .u8 c 224==192)=false:=(by rw [aIm c G.1 G.2];simp;omega);have t1:128<=c:=(by omega);obtain ⟨f8,g4⟩:=G;have d4:Hid (zs[0]?.getD 0=c):=L;clear hc L;have f3:(0:Int)<(zs.length:Int):=(by omega);have d8:∀ o,(w.alloc o).cell? ⟨b,off,none⟩=some (.int .u8 c):=fun o=>(World.cell?_alloc_past _ _ _ c8).trans b7
 go_enter func157,ntmps157
 go_wp2_with fail
 have f0:=zA w c;have B0:=iJ w (.cells #[.int .i32 c,.int .i64 1,.bool false] 234);have v0:=hv.below B0;generalize w.alloc (.cells #[.int .i32 c,.int .i64 1,.bool false] 234)=W0 at f0 B0 v0
 by_cases g1:eF zs 1
 ·have f9:=u.get 1;refine (mI w.heap.size _ zs c 1 false W0 f0 v0 u hm (by omega) g1.1 g1.2 (by omega) (by omega)).mono ?_;rintro e W1 ⟨rfl,fn,E⟩;obtain ⟨Z,hx⟩:∃ x,x=c*64+zs[1]?.getD 0%64:=⟨_,rfl⟩;have f1:Frm w.heap.size W1 Z 2 false:=(by rw [hx];simpa using fn);have N:=v0.below E;have B1:=B0.trans E;have d7:0<=Z/\Z<16384:=(by omega);have d5:Hid (Z=c*64+zs[1]?.getD 0%64):=hx;clear hx fn f0 v0 B0 E
  go_wp2_with fail
  by_cases g2:eF zs 2
  ·have g5:=u.get 2;refine (mI w.heap.size _ zs Z 2 false W1 f1 N u hm (by omega) g2.1 g2.2 (by omega) (by omega)).mono ?_;rintro e W2 ⟨rfl,fn,E⟩;obtain ⟨Y,hx⟩:∃ x,x=Z*64+zs[2]?.getD 0%64:=⟨_,rfl⟩;have f2:Frm w.heap.size W2 Y 3 false:=(by rw [hx];simpa using fn);have v2:=N.below E;have X:=B1.trans E;have d9:0<=Y/\Y<1048576:=(by omega);have d1:Hid (Y=Z*64+zs[2]?.getD 0%64):=hx;clear hx fn f1 N B1 E;obtain ⟨y,hy⟩:∃ y,y=(zs[0]?.getD 0%16*64+zs[1]?.getD 0%64)*64+zs[2]?.getD 0%64:=⟨_,rfl⟩;have d0:=u.get 0;have b6:=u.get 1;have b5:=u.get 2;have b9:=H.out;have b0:0<=y:=(by omega);have a8:y<65536:=(by omega);have O:Hid (lv zs 3=y):=(by unfold Hid;rw [hy];exact lv3 b9 g1 g2);have HY:Hid (y=(zs[0]?.getD 0%16*64+zs[1]?.getD 0%64)*64+zs[2]?.getD 0%64):=hy;clear hy b9 d0 b6 b5;have q0:=f2.c0;have q1:=f2.c1;have q2:=f2.c2;have a9:=hT.below X hT.pos;have e1:=a9.c3;have e2:=a9.c2;clear f2 v2 hT a9
   have d6:bits .and .i32 Y 65535=y:=by
    rw [show bits .and .i32 Y 65535=Y%65536 by simpa using oD 16 (by omega) Y (by omega) (by omega)];have h0:=H.out;have L:=d4.out;rw [L] at h0;rw [HY.out,L];have b6:=u.get 1;have f6:=d5.out;have b5:=u.get 2;have f7:=d1.out;omega
   go_wp2
   go_quiet (fail)
   by_cases U:y<2048
   ·have A:¬ hit zs 3=true:=fun h=>((wQ a8).1 ((fQ O.out b0).1 h)).1 U
    have J:Hid (aM zs=0):=by
     unfold Hid;rw [bL (n:=3) (by omega) (by omega) (fun m M S D=>cL (mJ H.out m M S D)),if_neg A]
    have HP:Hid (fpP zs = -1):=eS J.out;clear A;go_wp2;go_ret2;exact ⟨by rw [HP.out,J.out];rfl,below_drewN X _⟩
   ·cases ho:bW y
    ·have A:¬ hit zs 3=true:=fun h=>by
      have:=((wQ a8).1 ((fQ O.out b0).1 h)).2;rw [ho] at this;cases this
     have J:Hid (aM zs=0):=by
      unfold Hid;rw [bL (n:=3) (by omega) (by omega) (fun m M S D=>cL (mJ H.out m M S D)),if_neg A]
     have HP:Hid (fpP zs = -1):=eS J.out;clear A
     go_wp2_with (go_at_call 170;refine (eU _ _).mono ?_;rintro e w' ⟨rfl,rfl⟩;rw [ho])
     go_ret2;exact ⟨by rw [HP.out,J.out];rfl,below_drewN X _⟩
    ·have A:hit zs 3=true:=(fQ O.out b0).2 ((wQ a8).2 ⟨U,ho⟩)
     have J:Hid (aM zs=3):=by
      unfold Hid;rw [bL (n:=3) (by omega) (by omega) (fun m M S D=>cL (mJ H.out m M S D)),if_pos A]
     have HP:Hid (fpP zs=y):=uQ (by omega) J.out O.out;clear A
     go_wp2_with (go_at_call 170;refine (eU _ _).mono ?_;rintro e w' ⟨rfl,rfl⟩;rw [ho])
     go_quiet (fail)
     go_wp2;go_ret2;exact ⟨by rw [HP.out,J.out];rfl,below_drewN (below_drewN X _) _⟩
  ·refine (fB w.heap.size _ zs Z 2 false W1 f1 N u hm (by omega) (by by_cases h:zs.length<=2;exact .inl h;exact .inr fun e=>g2 ⟨by omega,e⟩)).mono ?_;rintro e W2 ⟨rfl,f2,E⟩;have v2:=N.below E;have X:=B1.trans E;clear f1 N B1 E;have q2:=f2.c2;clear f2 v2;go_wp2;go_ret2;have J:aM zs=0:=(by rw [bL (n:=3) (by omega) (by omega) (fun m M S D=>cL (mJ H.out m M S D)),sQ (uE 2 (by omega) (by omega) (fun j M h2=>by rcases (show j=1 by omega) with rfl;exact g1) g2)];rfl);exact ⟨by rw [eS J,J];rfl,X⟩
 ·refine (fB w.heap.size _ zs c 1 false W0 f0 v0 u hm (by omega) (by by_cases h:zs.length<=1;exact .inl h;exact .inr fun e=>g1 ⟨by omega,e⟩)).mono ?_;rintro e W1 ⟨rfl,f1,E⟩;have N:=v0.below E;have B1:=B0.trans E;clear f0 v0 B0 E
  go_wp2_with fail
  refine (fB w.heap.size _ zs c 1 true W1 f1 N u hm (by omega) (by by_cases h:zs.length<=1;exact .inl h;exact .inr fun e=>g1 ⟨by omega,e⟩)).mono ?_;rintro e W2 ⟨rfl,f2,E⟩;have v2:=N.below E;have X:=B1.trans E;clear f1 N B1 E;have q2:=f2.c2;clear f2 v2;go_wp2;go_ret2;have J:aM zs=0:=(by rw [bL (n:=3) (by omega) (by omega) (fun m M S D=>cL (mJ H.out m M S D)),sQ (uE 1 (by omega) (by omega) (fun j M h2=>absurd h2 (by omega)) g1)];rfl);exact ⟨by rw [eS J,J];rfl,X⟩
theorem aNd (b off cap:Nat) (zs:List Int) (w:World) (hT:Tab w) (hv:RdB w.heap.size w (.slice (some ⟨b,off,none⟩) zs.length cap) zs) (E:Bys zs) (hm:zs.length<=4194304) (A:0<zs.length) (b4:b<w.heap.size)
  (b0:w.cell? ⟨b,off,none⟩=some (.int .u8 (zs[0]?.getD 0)))
  (hc:zs[0]?.getD 0 / 32=6) :
  Calls prog 157 #[.slice (some ⟨b,off,none⟩) zs.length cap] w fun e w'=>e=.returned (.tuple #[.int .i32 (fpP zs),.int .i64 (aM zs)])/\Below w.heap.size w w':=by
 have G:Hid (zs[0]?.getD 0 / 32=6):=hc;have D:=E.get 0;generalize H:zs[0]?.getD 0=c at b0 D hc;have t4:(bits .and .u8 c 248==240)=false:=(by rw [aHV c D.1 D.2];simp;omega);have t3:(bits .and .u8 c 240==224)=false:=(by rw [aJt c D.1 D.2];simp;omega);have t2:(bits .and .u8 c 224==192)=true:=(by rw [aIm c D.1 D.2];simp;omega);have t1:128<=c:=(by omega);obtain ⟨d9,d6⟩:=D;have b9:Hid (zs[0]?.getD 0=c):=H;clear hc H;have d0:(0:Int)<(zs.length:Int):=(by omega);have c9:∀ o,(w.alloc o).cell? ⟨b,off,none⟩=some (.int .u8 c):=fun o=>(World.cell?_alloc_past _ _ _ b4).trans b0
 go_enter func157,ntmps157
 go_wp2_with fail
 have f0:=zA w c;have B0:=iJ w (.cells #[.int .i32 c,.int .i64 1,.bool false] 234);have X:=hv.below B0;generalize w.alloc (.cells #[.int .i32 c,.int .i64 1,.bool false] 234)=W0 at f0 B0 X
 by_cases g1:eF zs 1
 ·have d3:=E.get 1;refine (mI w.heap.size _ zs c 1 false W0 f0 X E hm (by omega) g1.1 g1.2 (by omega) (by omega)).mono ?_;rintro e W1 ⟨rfl,fn,S⟩;obtain ⟨N,hx⟩:∃ x,x=c*64+zs[1]?.getD 0%64:=⟨_,rfl⟩;have f1:Frm w.heap.size W1 N 2 false:=(by rw [hx];simpa using fn);have v1:=X.below S;have B1:=B0.trans S;have c7:0<=N/\N<16384:=(by omega);have c4:Hid (N=c*64+zs[1]?.getD 0%64):=hx;clear hx fn f0 X B0 S;obtain ⟨y,hy⟩:∃ y,y=zs[0]?.getD 0%32*64+zs[1]?.getD 0%64:=⟨_,rfl⟩;have b5:=E.get 0;have a9:=E.get 1;have b1:=G.out;have a4:0<=y:=(by omega);have Y:y<2048:=(by omega);have L:Hid (lv zs 2=y):=(by unfold Hid;rw [hy];exact lv2 b1 g1);have HY:Hid (y=zs[0]?.getD 0%32*64+zs[1]?.getD 0%64):=hy;clear hy b1 b5 a9;have q0:=f1.c0;have q1:=f1.c1;have q2:=f1.c2;have Z:=hT.below B1 hT.pos;have e1:=Z.c2;have e2:=Z.c1;clear f1 v1 hT Z
  have c5:bits .and .i32 N 2047=y:=by
   rw [show bits .and .i32 N 2047=N%2048 by simpa using oD 11 (by omega) N (by omega) (by omega)];have h0:=G.out;have H:=b9.out;rw [H] at h0;rw [HY.out,H];have a9:=E.get 1;have d2:=c4.out;omega
  go_wp2
  go_quiet (fail)
  by_cases M:y<128
  ·have u:¬ hit zs 2=true:=fun h=>((xF Y).1 ((fQ L.out a4).1 h)).1 M
   have J:Hid (aM zs=0):=by
    unfold Hid;rw [bL (n:=2) (by omega) (by omega) (fun m O U A=>cL (pB G.out m O U A)),if_neg u]
   have HP:Hid (fpP zs = -1):=eS J.out;clear u;go_wp2;go_ret2;exact ⟨by rw [HP.out,J.out];rfl,below_drewN B1 _⟩
  ·cases ho:bW y
   ·have u:¬ hit zs 2=true:=fun h=>by
     have:=((xF Y).1 ((fQ L.out a4).1 h)).2;rw [ho] at this;cases this
    have J:Hid (aM zs=0):=by
     unfold Hid;rw [bL (n:=2) (by omega) (by omega) (fun m O U A=>cL (pB G.out m O U A)),if_neg u]
    have HP:Hid (fpP zs = -1):=eS J.out;clear u
    go_wp2_with (go_at_call 170;refine (eU _ _).mono ?_;rintro e w' ⟨rfl,rfl⟩;rw [ho])
    go_ret2;exact ⟨by rw [HP.out,J.out];rfl,below_drewN B1 _⟩
   ·have u:hit zs 2=true:=(fQ L.out a4).2 ((xF Y).2 ⟨M,ho⟩)
    have J:Hid (aM zs=2):=by
     unfold Hid;rw [bL (n:=2) (by omega) (by omega) (fun m O U A=>cL (pB G.out m O U A)),if_pos u]
    have HP:Hid (fpP zs=y):=uQ (by omega) J.out L.out;clear u
    go_wp2_with (go_at_call 170;refine (eU _ _).mono ?_;rintro e w' ⟨rfl,rfl⟩;rw [ho])
    go_quiet (fail)
    go_wp2;go_ret2;exact ⟨by rw [HP.out,J.out];rfl,below_drewN (below_drewN B1 _) _⟩
 ·refine (fB w.heap.size _ zs c 1 false W0 f0 X E hm (by omega) (by by_cases h:zs.length<=1;exact .inl h;exact .inr fun e=>g1 ⟨by omega,e⟩)).mono ?_;rintro e W1 ⟨rfl,f1,S⟩;have v1:=X.below S;have B1:=B0.trans S;clear f0 X B0 S;have q2:=f1.c2;clear f1 v1;go_wp2;go_ret2;have J:aM zs=0:=(by rw [bL (n:=2) (by omega) (by omega) (fun m O U A=>cL (pB G.out m O U A)),sQ (uE 1 (by omega) (by omega) (fun j O h2=>absurd h2 (by omega)) g1)];rfl);exact ⟨by rw [eS J,J];rfl,B1⟩
theorem aMn (b off cap:Nat) (zs:List Int) (w:World) (J:Tab w) (_hv:RdB w.heap.size w (.slice (some ⟨b,off,none⟩) zs.length cap) zs) (M:Bys zs) (hm:zs.length<=4194304) (G:0<zs.length) (L:b<w.heap.size)
  (H:w.cell? ⟨b,off,none⟩=some (.int .u8 (zs[0]?.getD 0)))
  (D:zs[0]?.getD 0<128) :
  Calls prog 157 #[.slice (some ⟨b,off,none⟩) zs.length cap] w fun e w'=>e=.returned (.tuple #[.int .i32 (fpP zs),.int .i64 (aM zs)])/\Below w.heap.size w w':=by
 have h:=M.get 0
 have y:lv zs 1=zs[0]?.getD 0:=by
  rw [jX (by omega) (by rw [lM _ D];omega),lM _ D];rfl
 have E:bW (zs[0]?.getD 0)=true:=(by simp [bW];omega);have j:cM (zs[0]?.getD 0)=1:=(by unfold cM;rw [if_pos E,if_pos D]);have u:hit zs 1=true:=(fQ y h.1).2 j
 have U:Hid (aM zs=1):=by
  unfold Hid;rw [bL (n:=1) (by omega) (by omega) (fun m h1 Z G=>cL (aBE h.1 D m h1 Z G)),if_pos u]
 have O:Hid (fpP zs=zs[0]?.getD 0):=uQ (by omega) U.out y;clear y j u;generalize zs[0]?.getD 0=c at H h D E O;have t4:(bits .and .u8 c 248==240)=false:=(by rw [aHV c h.1 h.2];simp;omega);have t3:(bits .and .u8 c 240==224)=false:=(by rw [aJt c h.1 h.2];simp;omega);have t2:(bits .and .u8 c 224==192)=false:=(by rw [aIm c h.1 h.2];simp;omega);have t1:c<128:=D;obtain ⟨a6,a4⟩:=h;have X:(0:Int)<(zs.length:Int):=(by omega);have S:∀ o,(w.alloc o).cell? ⟨b,off,none⟩=some (.int .u8 c):=fun o=>(World.cell?_alloc_past _ _ _ L).trans H;have f0:=zA w c;have Y:=iJ w (.cells #[.int .i32 c,.int .i64 1,.bool false] 234);have q0:=f0.c0;have q1:=f0.c1;have q2:=f0.c2;have A:=J.below Y J.pos;have e1:=A.c1;have e2:=A.c0;clear f0 A J D
 have N:bits .and .i32 c 127=c:=by
  rw [show bits .and .i32 c 127=c%128 by simpa using oD 7 (by omega) c (by omega) (by omega)];omega
 go_enter func157,ntmps157
 go_wp2_with fail
 go_quiet (fail)
 go_wp2_with (go_at_call 170;refine (eU _ _).mono ?_;rintro e w' ⟨rfl,rfl⟩;rw [E])
 go_quiet (fail)
 go_wp2;go_ret2;exact ⟨by rw [O.out,U.out];rfl,below_drewN (below_drewN Y _) _⟩
theorem aMx (b off cap:Nat) (zs:List Int) (w:World) (_hT:Tab w) (_hv:RdB w.heap.size w (.slice (some ⟨b,off,none⟩) zs.length cap) zs) (G:Bys zs) (_hm:zs.length<=4194304) (N:0<zs.length) (D:b<w.heap.size)
  (A:w.cell? ⟨b,off,none⟩=some (.int .u8 (zs[0]?.getD 0)))
  (E:(128:Int)<=zs[0]?.getD 0) (y:¬ zs[0]?.getD 0 / 32=6) (u:¬ zs[0]?.getD 0 / 16=14) (j:¬ zs[0]?.getD 0 / 8=30) :
  Calls prog 157 #[.slice (some ⟨b,off,none⟩) zs.length cap] w fun e w'=>e=.returned (.tuple #[.int .i32 (fpP zs),.int .i64 (aM zs)])/\Below w.heap.size w w':=by
 have h:=G.get 0;have J:Hid (aM zs=0):=aFJ (fun m U O=>cL (aHa E y u j m U O));have M:Hid (fpP zs = -1):=eS J.out;generalize zs[0]?.getD 0=c at A h E y u j;have t4:(bits .and .u8 c 248==240)=false:=(by rw [aHV c h.1 h.2];simp;omega);have Z:(bits .and .u8 c 240==224)=false:=(by rw [aJt c h.1 h.2];simp;omega);have t2:(bits .and .u8 c 224==192)=false:=(by rw [aIm c h.1 h.2];simp;omega);have t1:128<=c:=(by omega);obtain ⟨Y,S⟩:=h;clear E y u j;have L:(0:Int)<(zs.length:Int):=(by omega);have H:∀ o,(w.alloc o).cell? ⟨b,off,none⟩=some (.int .u8 c):=fun o=>(World.cell?_alloc_past _ _ _ D).trans A;have X:=iJ w (.cells #[.int .i32 c,.int .i64 1,.bool true] 234)
 go_enter func157,ntmps157
 go_wp2;go_ret2;exact ⟨by rw [M.out,J.out];rfl,X⟩
theorem qX (v:Value) (zs:List Int) (w:World) (E:Tab w) (hv:RdB w.heap.size w v zs) (y:Bys zs) (D:zs.length<=4194304) (j:0<zs.length) :
  Calls prog 157 #[v] w fun e w'=>e=.returned (.tuple #[.int .i32 (fpP zs),.int .i64 (aM zs)])/\Below w.heap.size w w':=by
 obtain ⟨a,cap,A,L⟩:=hv;obtain ⟨b,off,S,G,N⟩:=L (fun h=>by simp [h] at j);subst S;subst A;have hv:RdB w.heap.size w (.slice (some ⟨b,off,none⟩) zs.length cap) zs:=⟨_,cap,rfl,L⟩;have u:w.cell? ⟨b,off,none⟩=some (.int .u8 (zs[0]?.getD 0)):=by simpa using N 0 j
 by_cases O:zs[0]?.getD 0<128
 ·exact aMn b off cap zs w E hv y D j G u O
 ·by_cases J:zs[0]?.getD 0 / 32=6
  ·exact aNd b off cap zs w E hv y D j G u J
  ·by_cases M:zs[0]?.getD 0 / 16=14
   ·exact aNc b off cap zs w E hv y D j G u M
   ·by_cases H:zs[0]?.getD 0 / 8=30
    ·exact aNb b off cap zs w E hv y D j G u H
    ·exact aMx b off cap zs w E hv y D j G u (by omega) J M H
def nxP (zs:List Int) (n:Nat):Int:=if n<zs.length then fpP (zs.drop n) else -1
def nxS (zs:List Int) (n:Nat):Nat:=if n<zs.length then aM (zs.drop n) else 0
theorem aCl {zs:List Int} {n:Nat} (h:¬ n<zs.length):nxP zs n = -1:=by simp [nxP,h]
theorem aKP {zs:List Int} {n:Nat} (h:¬ n<zs.length):nxS zs n=0:=by simp [nxS,h]
theorem aCU {zs:List Int} {n:Nat} (h:n<zs.length):nxP zs n=fpP (zs.drop n):=by simp [nxP,h]
theorem aEX {zs:List Int} {n:Nat} (h:n<zs.length):nxS zs n=aM (zs.drop n):=by simp [nxS,h]
theorem aMC (zs:List Int) (n:Nat) (h:n<=zs.length):n+nxS zs n<=zs.length:=by
 unfold nxS
 split
 ·have:=wE (zs.drop n);rw [List.length_drop] at this;omega
 ·omega
theorem aLi {zs:List Int} {n:Nat} (h:nxP zs n≠-1):0<nxS zs n/\n<zs.length:=by
 by_cases j:n<zs.length
 ·refine ⟨?_,j⟩;rw [aCU j] at h;rw [aEX j];rcases Nat.eq_zero_or_pos (aM (zs.drop n)) with e | e
  ·exact absurd (eS e) h
  ·exact e
 ·exact absurd (aCl j) h
def skN (P:Int->Bool) (zs:List Int):Nat->Nat->Nat
 | 0,n=>n
 | f+1,n=>if nxP zs n≠-1/\P (nxP zs n)=true then skN P zs f (n+nxS zs n) else n
theorem aJw {P:Int->Bool} {zs:List Int} {f n:Nat} (j:nxP zs n≠-1) (h:P (nxP zs n)=true):skN P zs (f+1) n=skN P zs f (n+nxS zs n):=by
 rw [skN,if_pos ⟨j,h⟩]
theorem aEF {P:Int->Bool} {zs:List Int} {f n:Nat} (h:nxP zs n = -1\/P (nxP zs n)=false):skN P zs f n=n:=by
 cases f with
 | zero=>rfl
 | succ f=>
   rw [skN,if_neg];rintro ⟨u,j⟩;rcases h with h | h
   ·exact u h
   ·rw [h] at j;cases j
theorem aD3 {zs:List Int} (H:Bys zs) {n:Nat} (J:n<zs.length) (h:zs[n]?.getD 0<128):nxP zs n=zs[n]?.getD 0/\nxS zs n=1:=by
 have D:=H.get n;have E:(zs.drop n)[0]?.getD 0=zs[n]?.getD 0:=(by simp [List.getElem?_drop]);have A:1<=(zs.drop n).length:=(by rw [List.length_drop];omega);generalize M:zs.drop n=s at E A;rw [aCU J,aEX J,M,<- E];rw [<- E] at h D
 have y:lv s 1=s[0]?.getD 0:=by
  rw [jX (by omega) (by rw [lM _ h];omega),lM _ h];rfl
 have G:bW (s[0]?.getD 0)=true:=(by simp [bW];omega);have j:cM (s[0]?.getD 0)=1:=(by unfold cM;rw [if_pos G,if_pos h]);have u:hit s 1=true:=(fQ y D.1).2 j;have L:aM s=1:=(by unfold aM;rw [if_pos u]);exact ⟨uQ (by omega) L y,L⟩
theorem aHe {s:List Int} (h:aM s≠0):hit s (aM s)=true:=by
 unfold aM at h ⊢
 split
 ·assumption
 ·split
  ·assumption
  ·split
   ·assumption
   ·split
    ·assumption
    ·simp_all
theorem aKf {zs:List Int} {n:Nat} (A:n<zs.length) (h:¬ zs[n]?.getD 0<128):nxP zs n = -1\/128<=nxP zs n:=by
 have E:(zs.drop n)[0]?.getD 0=zs[n]?.getD 0:=(by simp [List.getElem?_drop]);rw [aCU A];rw [<- E] at h;generalize zs.drop n=s at h
 by_cases u:aM s=0
 ·exact .inl (eS u)
 ·right;have G:hit s 1=false:=cL (by simp [hZ,h]);have j:=aHe u;have D:fpP s=lv s (aM s):=(by simp [fpP,u]);rw [D];have J:aM s≠1:=fun e=>by rw [e,G] at j;cases j
  simp only [hit,Bool.and_eq_true,decide_eq_true_eq,beq_iff_eq] at j;apply Classical.byContradiction;intro H;have y:bW (lv s (aM s))=true:=(by simp [bW];omega);have:=j.2;rw [cM,if_pos y,if_pos (by omega)] at this;omega
def Asc (P:Int->Bool):Prop:=∀ p,P p=true->0<=p/\p<128
theorem aH6 {P:Int->Bool} (H:Asc P) {zs:List Int} (y:Bys zs):∀ (f n:Nat),n<=zs.length->zs.length - n<f->
  zs.drop (skN P zs f n)=(zs.drop n).dropWhile P/\n<=skN P zs f n/\skN P zs f n<=zs.length/\(n<skN P zs f n ↔ (n<zs.length/\P (zs[n]?.getD 0)=true)):=by
 intro f
 induction f with
 | zero=>intro n D N;omega
 | succ f ih=>
   intro n D N
   by_cases u:n<zs.length
   ·have J:=List.drop_eq_getElem_cons u;have L:zs[n]?.getD 0=zs[n]:=by simp [u]
    by_cases j:P (zs[n]?.getD 0)=true
    ·have G:=aD3 y u (H _ j).2;have E:nxP zs n≠-1:=(by rw [G.1];have:=(H _ j).1;omega);have:=ih (n+1) (by omega) (by omega);rw [aJw E (by rw [G.1];exact j),G.2];refine ⟨?_,by omega,this.2.2.1,fun _=>⟨u,j⟩,fun _=>by omega⟩;rw [this.1,J,List.dropWhile_cons,if_pos (by rw [<- L];exact j)]
    ·have A:nxP zs n = -1\/P (nxP zs n)=false:=by
      by_cases h:zs[n]?.getD 0<128
      ·right;rw [(aD3 y u h).1];simpa using j
      ·rcases aKf u h with e | e
       ·exact .inl e
       ·right;cases M:P (nxP zs n)
        ·rfl
        ·have:=(H _ M).2;omega
     rw [aEF A];refine ⟨?_,Nat.le_refl _,D,by simp [j]⟩;rw [J,List.dropWhile_cons,if_neg (by rw [<- L];simpa using j)]
   ·rw [aEF (.inl (aCl u))];refine ⟨?_,Nat.le_refl _,D,by omega⟩;rw [List.drop_of_length_le (by omega)];rfl
structure Sc (sb:Nat) (w:World) (tv:Value) (n:Nat):Prop where
 c0:w.cell? ⟨sb,0,none⟩=some tv
 c1:w.cell? ⟨sb,1,none⟩=some (.int .i64 n)
 fz:∀ j,w.frozen? ⟨sb,j,none⟩=false
theorem Sc.lt {sb:Nat} {w:World} {tv:Value} {n:Nat} (h:Sc sb w tv n):sb<w.heap.size:=World.block_lt_of_cell? w _ h.c0
theorem Sc.K {sb:Nat} {w w':World} {tv:Value} {n:Nat} (h:Sc sb w tv n) (u:w.grownBy w' none):Sc sb w' tv n:=
 ⟨u.cell h.c0 (by simp),u.cell h.c1 (by simp),fun j=>(World.frozen?_of_block (u.block sb h.lt (by simp))).trans (h.fz j)⟩
theorem Sc.put {sb:Nat} {w:World} {tv:Value} {n:Nat} (h:Sc sb w tv n) (m:Int) (k:Nat) (D:m=k):Sc sb (w.setCell ⟨sb,1,none⟩ (.int .i64 m)) tv k:=by
 subst D;have A:=h.c0;have u:=h.c1;have y:=h.fz;exact ⟨by simp [go_sem,A],by simp [go_sem,u],fun j=>by simpa using y j⟩
structure Tx (B:Nat) (w:World) (tv:Value) (zs:List Int):Prop where
 rd:RdB B w tv zs
 sl:Sl tv zs.length
 by_:Bys zs
 len:zs.length<=1048576
theorem Tx.K {B:Nat} {w w':World} {tv:Value} {zs:List Int} (h:Tx B w tv zs) (j:w.grownBy w' none):Tx B w' tv zs:=⟨h.rd.K j,h.sl,h.by_,h.len⟩
theorem Tx.beside {B sb:Nat} {w w':World} {tv:Value} {zs:List Int} (h:Tx B w tv zs) (j:B<=sb) (u:w.grownBy w' (some sb)):Tx B w' tv zs:=
 ⟨h.rd.beside u (fun k e=>by cases e;exact j),h.sl,h.by_,h.len⟩
theorem uL (w:World) (sb j:Nat) (x:Value):w.grownBy (w.setCell ⟨sb,j,none⟩ x) (some sb):=by
 refine ⟨rfl,rfl,rfl,by simp,fun i u h=>?_⟩;exact Below.heap_setCell _ _ _ _ (fun e=>h (by rw [e]))
theorem nN {a b:World} {r:Option Nat} (h:a.grownBy b r):a.grownBy b.drew r:=⟨h.os,h.tape,h.output,h.size,h.block⟩
theorem gH {a b:World} {r:Option Nat} (h:a.grownBy b none):a.grownBy b r:=⟨h.os,h.tape,h.output,h.size,fun i j _=>h.block i j (by simp)⟩
theorem aBH (sb n:Nat) (tv:Value) (zs:List Int) (w:World) (h:Sc sb w tv n) (j:Tx sb w tv zs) :
  Calls prog 155 #[.pointer (some ⟨sb,0,none⟩)] w fun e w'=>e=.returned (.bool ((n:Int)==(zs.length:Int)))/\w.grownBy w' none:=by
 obtain ⟨a,cap,rfl,_⟩:=j.rd;have u:=h.c0;have y:=h.c1
 go_enter func155,ntmps155
 go_wp2_with fail
 go_quiet (fail)
 go_wp2;go_ret;exact ⟨rfl,dT (World.grownBy.refl _ _) _⟩
theorem aEj (sb n:Nat) (tv:Value) (zs:List Int) (w:World) (hT:Tab w) (h:Sc sb w tv n) (L:Tx sb w tv zs) (hn:n<=zs.length) :
  Calls prog 186 #[.pointer (some ⟨sb,0,none⟩)] w fun e w'=>e=.returned (.int .i32 (nxP zs n))/\Sc sb w' tv (n+nxS zs n)/\w.grownBy w' (some sb):=by
 have hE:=aBH sb n tv zs w h L;have J:=aB h;have h0:=h.c0;have h1:=h.c1;have h2:=h.fz;have c3:=h.lt;have a9:=L.len;have a5:=L.by_;clear h
 by_cases u:n<zs.length
 ·have A:((n:Int)==(zs.length:Int))=false:=(by simp;omega);obtain ⟨a,cap,rfl,hr⟩:=L.rd;obtain ⟨b,off,rfl,hb,hc⟩:=hr (fun e=>by simp [e] at u);obtain ⟨a',S,D,a8,Z⟩:=L.sl;have a4:cap=S:=(by simp at D;exact D.2);subst a4;unfold maxLen at Z;have b7:b<w.heap.size:=(by omega);obtain ⟨s,E⟩:∃ s,s=zs.drop n:=⟨_,rfl⟩;have X:s.length=zs.length - n:=by rw [E,List.length_drop]
  have O:∀ W,w.grownBy W none->RdB W.heap.size W (.slice (some ⟨b,off+n,none⟩) (zs.length - n) (cap - n)) s:=by
   intro W G;refine ⟨some ⟨b,off+n,none⟩,cap - n,by rw [X],fun _=>⟨b,off+n,rfl,by have:=G.size;omega,fun j hj=>?_⟩⟩;rw [Nat.add_assoc,G.cell (hc (n+j) (by omega)) (by simp),E,pM]
  have N:Bys s:=fun z hz=>a5 z (by rw [E] at hz;exact List.mem_of_mem_drop hz);have y:=fun W G=>qX _ s W (hT.K G) (O W G) N (by omega) (by omega);have HP:Hid (nxP zs n=fpP s):=(by rw [Hid,aCU u,E]);have HS:Hid (nxS zs n=aM s):=(by rw [Hid,aEX u,E]);have Y:aM s<=zs.length:=(by have:=wE s;omega);have c2:¬ cap=n:=(by omega);clear hr hc D E O N;generalize fpP s=p at y HP;generalize aM s=m at y HS Y
  go_enter func186,ntmps186
  go_wp2_with fail
  refine hE.mono ?_;rintro e w0 ⟨rfl,U⟩;rw [A];have c0:=U.cell h0 (by simp);have c1:=U.cell h1 (by simp);have HF:=aB (y w0.drew (nN U));clear h0 h1 h2 y
  go_wp2_with fail
  go_region_with (go_at_call 157;refine HF.out.mono ?_;rintro e w1 ⟨rfl,M⟩)
  all_goals
   have H:=aA (nN U) (aC M);have k:=J.out.K H;have k0:=k.c0;have k1:=k.c1;have k2:=k.fz;have HK:=aB k;clear k M;go_wp2;go_ret;refine ⟨by rw [HP.out];rfl,by rw [HS.out];exact HK.out.put _ _ (by go_num),aA (gH H) (uL _ _ _ _)⟩
 ·have A:((n:Int)==(zs.length:Int))=true:=by simp;omega
  go_enter func186,ntmps186
  go_wp2_with fail
  refine hE.mono ?_;rintro e w1 ⟨rfl,H⟩;rw [A];go_wp2;go_ret;exact ⟨by rw [aCl u];rfl,by rw [aKP u];exact J.out.K H,gH H⟩
theorem fG (xs:List Int):(strOfNums xs).toList=xs.map fun n=>UInt8.ofNat n.toNat:=by
 rw [ByteArray.toList_eq];rfl
theorem aLQ {x y:Int} (j:0<=x/\x<=255) (u:0<=y/\y<=255) (h:UInt8.ofNat x.toNat=UInt8.ofNat y.toNat):x=y:=by
 have:=congrArg UInt8.toNat h;simp only [UInt8.toNat_ofNat'] at this;omega
theorem aGG:∀ {xs ys:List Int},Bys xs->Bys ys->(xs.map (fun n=>UInt8.ofNat n.toNat))=(ys.map (fun n=>UInt8.ofNat n.toNat))->xs=ys
 | [],[],_,_,_=>rfl
 | [],_::_,_,_,h=>by simp at h
 | _::_,[],_,_,h=>by simp at h
 | x::xs,y::ys,hx,hy,h=>by
   simp only [List.map_cons,List.cons.injEq] at h;rw [aLQ (hx x (by simp)) (hy y (by simp)) h.1,aGG (fun z j=>hx z (by simp [j])) (fun z j=>hy z (by simp [j])) h.2]
theorem aCj {xs ys:List Int} (j:Bys xs) (u:Bys ys):((strOfNums xs).toList==(strOfNums ys).toList)=decide (xs=ys):=by
 rw [fG,fG]
 by_cases h:xs=ys
 ·subst h;simp
 ·have:¬ (xs.map (fun n=>UInt8.ofNat n.toNat))=(ys.map (fun n=>UInt8.ofNat n.toNat)):=fun e=>h (aGG j u e);simp [h,this]
theorem qB {B:Nat} {w:World} {v:Value} {xs:List Int} (h:Rd .u8 B w v xs):(convert 27 9 v).run prog w=.ok (.string (strOfNums xs)) w:=by
 obtain ⟨a,cap,rfl,D⟩:=h
 by_cases u:xs=[]
 ·subst u;cases a with
  | none=>exact run_convert_bytes_nil w 27 5 underlying27 underlying5 _ _ 9 underlying9
  | some x=>
    rw [run_convert_bytes_string w 27 9 5 _ _ cap underlying27 underlying5 underlying9];have:=run_bytesToString (P:=prog) w x 0 cap [] (run_loadCells_list (P:=prog) w x [] (fun j v E=>by simp at E));rw [show ([]:List Int).length=0 from rfl,this];rfl
 ·obtain ⟨b,off,rfl,G,y⟩:=D u;exact run_convert_bytes_arg w 27 5 underlying27 underlying5 b off xs.length cap xs rfl (fun i A=>by rw [y i A];simp [List.getD]) 9 underlying9
theorem aAN (y h:Value) (xs ys:List Int) (w:World) (j:RdB w.heap.size w y xs) (A:RdB w.heap.size w h ys) (D:Bys xs) (E:Bys ys) :
  Calls prog 172 #[y,h] w fun e w'=>e=.returned (.bool (decide (xs=ys)))/\w=w':=by
 have L:=qB j;have J:=qB A;have G:=aB (aCj D E);obtain ⟨a,cap,rfl,_⟩:=j;obtain ⟨H,u,rfl,_⟩:=A
 go_enter func172,ntmps172
 go_wp2;go_ret;exact ⟨by rw [<- G.out];rfl,rfl⟩
theorem aD7 (xs ys:List Int):decide (ys <+: xs)=decide (xs.take ys.length=ys):=by
 exact decide_eq_decide.2 (List.prefix_iff_eq_take.trans eq_comm)
theorem aBt (J S:Value) (xs ys:List Int) (w:World) (U:RdB w.heap.size w J xs) (Y:Sl J xs.length) (L:RdB w.heap.size w S ys) (b1:Bys xs) (X:Bys ys) (_hl:xs.length<=1048576) (a6:ys.length<=1048576) :
  Calls prog 184 #[J,S] w fun e w'=>e=.returned (.bool (decide (ys <+: xs)))/\w=w':=by
 obtain ⟨a,cap,hv,M,H⟩:=Y;obtain ⟨a',O,A,_⟩:=id L
 by_cases u:ys.length<=xs.length
 ·have G:=aB (aD7 xs ys)
  have E:RdB w.heap.size w (.slice a ys.length cap) (xs.take ys.length):=by
   obtain ⟨a2,D,y,E⟩:=U;have e:a=a2/\cap=D:=(by rw [hv] at y;simpa using y);refine ⟨a,cap,by rw [List.length_take_of_le u],fun h0=>?_⟩;obtain ⟨b,off,Z,hb,hc⟩:=E (fun e=>h0 (by rw [e];simp));refine ⟨b,off,by rw [e.1];exact Z,hb,fun j N=>?_⟩;rw [List.length_take_of_le u] at N;rw [hc j (by omega)];simp [N]
  have HE:=aB (aAN _ _ _ _ w E L (fun z hz=>b1 z (List.mem_of_mem_take hz)) X);subst hv A;clear U L E;unfold maxLen at H
  go_enter func184,ntmps184
  go_wp2_with (go_at_call 172;refine HE.out.mono ?_;rintro e w' ⟨rfl,rfl⟩)
  go_ret;exact ⟨by rw [G.out];rfl,rfl⟩
 ·have G:Hid (decide (ys <+: xs)=false):=by
   simp only [Hid,decide_eq_false_iff_not];intro h;exact u h.length_le
  subst hv A
  go_enter func184,ntmps184
  go_wp2;go_ret;exact ⟨by rw [G.out];rfl,rfl⟩
theorem Tx.wide {B B':Nat} {w:World} {tv:Value} {zs:List Int} (h:Tx B w tv zs) (H:B<=B'):Tx B' w tv zs:=by
 obtain ⟨⟨a,cap,hv,y⟩,E,A,u⟩:=h;refine ⟨⟨a,cap,hv,fun G=>?_⟩,E,A,u⟩;obtain ⟨b,off,D,J,j⟩:=y G;exact ⟨b,off,D,by omega,j⟩
theorem aHL (w:World) (tv:Value) (n:Nat):Sc w.heap.size (w.alloc (.cells #[tv,.int .i64 n] 222)) tv n:=
 ⟨by simp [go_sem],by simp [go_sem],fun j=>by simp [go_sem]⟩
theorem tU {a b c:World} {k:Nat} (h:a.grownBy b none) (u:a.heap.size<=k) (g:b.grownBy c (some k)):a.grownBy c none:=aU h g (fun j e=>by cases e;exact u)
theorem aDN (sb n:Nat) (tv:Value) (zs:List Int) (w:World) (A:Tab w) (h:Sc sb w tv n) (u:Tx sb w tv zs) (E:n<=zs.length) :
  Calls prog 185 #[.pointer (some ⟨sb,0,none⟩)] w fun e w'=>e=.returned (.int .i32 (nxP zs n))/\w.grownBy w' none:=by
 have y:=h.lt;have N:=h.c0;have M:=h.c1;have j:=World.grownBy_alloc w (.cells #[tv,.int .i64 n] 222) none;have D:=aEj w.heap.size n tv zs _ (A.K j) (aHL w tv n) ((u.wide (Nat.le_of_lt y)).K j) E;obtain ⟨a,cap,rfl,_⟩:=u.rd;have H:=aB j;have J:=aB D;clear h u A D j
 go_enter func185,ntmps185
 go_wp2_with (go_at_call 186;refine J.out.mono ?_;rintro e L ⟨rfl,_,G⟩)
 go_ret;exact ⟨rfl,tU H.out (Nat.le_refl _) G⟩
end Go.Proofs.YtgifkcpdihphlaaGreatDoor
