import Derived.Test.YtmfehflibkokbaaGreatDoorMAH
set_option maxHeartbeats 16000000
set_option maxRecDepth 100000
namespace Go.Proofs.YtmfehflibkokbaaGreatDoor
open Go.Proofs.Tryz
open Go.RowKit
def Frm (F:Nat) (w:World) (p n:Int) (c:Bool):Prop:=w.heap[F]?=some (.cells #[.int .i32 p,.int .i64 n,.bool c] 225 (0,0))
theorem Frm.c0 {F:Nat} {w:World} {p n:Int} {c:Bool} (h:Frm F w p n c):w.cell? ⟨F,0,none⟩=some (.int .i32 p):=by rw [cell_of_row w F 0 _ _ _ h];rfl
theorem Frm.c1 {F:Nat} {w:World} {p n:Int} {c:Bool} (h:Frm F w p n c):w.cell? ⟨F,1,none⟩=some (.int .i64 n):=by rw [cell_of_row w F 1 _ _ _ h];rfl
theorem Frm.c2 {F:Nat} {w:World} {p n:Int} {c:Bool} (h:Frm F w p n c):w.cell? ⟨F,2,none⟩=some (.bool c):=by rw [cell_of_row w F 2 _ _ _ h];rfl
theorem Frm.fr {F:Nat} {w:World} {p n:Int} {c:Bool} (h:Frm F w p n c) (j:Nat):w.frozen? ⟨F,j,none⟩=false:=frozen_of_row w F j _ _ h
theorem Frm.set0 {F:Nat} {w:World} {p n q:Int} {c:Bool} (h:Frm F w p n c):Frm F (w.setCell ⟨F,0,none⟩ (.int .i32 q)) q n c:=heap_setCell_same w F 0 _ _ _ h
theorem Frm.set1 {F:Nat} {w:World} {p n q:Int} {c:Bool} (h:Frm F w p n c):Frm F (w.setCell ⟨F,1,none⟩ (.int .i64 q)) p q c:=heap_setCell_same w F 1 _ _ _ h
theorem Frm.set2 {F:Nat} {w:World} {p n:Int} {c b:Bool} (h:Frm F w p n c):Frm F (w.setCell ⟨F,2,none⟩ (.bool b)) p n b:=heap_setCell_same w F 2 _ _ _ h
theorem aFs (z:Int) (A:0<=z) (J:z<=255):(bits .and .u8 z 192 != 128) = !decide (z / 64=2):=by
 obtain ⟨n,rfl⟩:=Int.eq_ofNat_of_zero_le A;have E:∀ m:Nat,m<256->(m &&& 192=128 ↔ m / 64=2):=(by decide);have h:=E n (by omega);have e:bits .and .u8 (n:Int) 192=((n &&& 192:Nat):Int):=u8_and_nat n 192 (by omega) (by omega);rw [e]
 by_cases y:n / 64=2
 ·rw [h.2 y];simp;omega
 ·have:¬ n &&& 192=128:=fun x=>y (h.1 x);have G:¬ (n:Int) / 64=2:=(by omega);have D:¬ ((n &&& 192:Nat):Int)=128:=(by omega);simp [G,D]
theorem aIA (z:Int) (h:0<=z) (A:z<=255):bits .and .u8 z 63=z%64:=by
 obtain ⟨n,rfl⟩:=Int.eq_ofNat_of_zero_le h;have e:bits .and .u8 (n:Int) 63=((n &&& 63:Nat):Int):=u8_and_nat n 63 (by omega) (by omega);have y:n &&& 63=n%64:=(by simpa using Nat.and_two_pow_sub_one_eq_mod n 6);rw [e,y];omega
theorem aLM (p z:Int) (y:0<=p) (E:p<16777216) (h:0<=z) (A:z<64):bits .or .i32 (p*64) z=p*64+z:=by
 obtain ⟨n,rfl⟩:=Int.eq_ofNat_of_zero_le y;obtain ⟨m,rfl⟩:=Int.eq_ofNat_of_zero_le h;have e:bits .or .i32 ((n*64:Nat):Int) (m:Int)=((n*64 ||| m:Nat):Int):=aEo (n*64) m (by omega) (by omega)
 have D:n*64 ||| m=n*64+m:=by
  have:=Nat.shiftLeft_add_eq_or_of_lt (i:=6) (b:=m) (by omega) n;rw [Nat.shiftLeft_eq] at this;exact this.symm
 rw [D] at e;rw [show ((n:Int)*64)=((n*64:Nat):Int) by omega,e];omega
theorem eU (F:Nat) (v:Value) (zs:List Int) (p:Int) (n:Nat) (c:Bool) (w:World) (D:Frm F w p n c) (hv:RdB F w v zs) (M:Bys zs) (_hm:zs.length<=4194304) (_hn:n<=4)
  (O:zs.length<=n\/¬ zs[n]?.getD 0 / 64=2) :
  Calls prog 160 #[.pointer (some ⟨F,0,none⟩),v] w fun e w'=>e=.returned (.tuple #[])/\Frm F w' p n true/\Below F w w':=by
 obtain ⟨a,cap,rfl,J⟩:=hv;have Z:=D.c0;have Y:=D.c1;have q2:=D.c2;have r2:=D.fr 2;have U:Hid (Frm F w p n c):=D;clear D
 by_cases N:zs.length<=n
 ·clear O J
  go_enter func160,ntmps160
  go_wp2
  first | go_end0 | refine bodyPost_ret (results_none rfl _ _ _) rfl ?_
  exact ⟨rfl,U.out.set2,(Below.refl _ _).setCell (p:=⟨F,2,none⟩) (Nat.le_refl _) _⟩
 ·obtain ⟨b,off,rfl,hb,E⟩:=J (fun h=>by simp [h] at N);have G:=E n (by omega);have y:=M.get n;have A:¬ zs[n]?.getD 0 / 64=2:=(by omega);generalize zs[n]?.getD 0=z at G y A;have S:(bits .and .u8 z 192 != 128)=true:=(by rw [aFs z y.1 y.2];simp [A]);have X:n<zs.length:=(by omega);clear O J E A N
  go_enter func160,ntmps160
  go_wp2
  first | go_end0 | refine bodyPost_ret (results_none rfl _ _ _) rfl ?_
  exact ⟨rfl,U.out.set2,(Below.refl _ _).setCell (p:=⟨F,2,none⟩) (Nat.le_refl _) _⟩
theorem mB (F:Nat) (v:Value) (zs:List Int) (p:Int) (n:Nat) (c:Bool) (w:World) (A:Frm F w p n c) (hv:RdB F w v zs) (O:Bys zs) (_hm:zs.length<=4194304) (hn:n<=4)
  (D:n<zs.length) (M:zs[n]?.getD 0 / 64=2) (G:0<=p) (N:p<16777216) :
  Calls prog 160 #[.pointer (some ⟨F,0,none⟩),v] w fun e w'=>e=.returned (.tuple #[])/\Frm F w' (p*64+zs[n]?.getD 0%64) ((n:Int)+1) c/\Below F w w':=by
 obtain ⟨a,cap,rfl,S⟩:=hv;have q0:=A.c0;have q1:=A.c1;have q2:=A.c2;have r0:=A.fr 0;have r1:=A.fr 1;have HF:Hid (Frm F w p n c):=A;clear A;obtain ⟨b,off,rfl,hb,E⟩:=S (fun h=>by simp [h] at D);have J:=E n D;have y:=O.get n;generalize zs[n]?.getD 0=z at J y M;have U:(bits .and .u8 z 192 != 128)=false:=(by rw [aFs z y.1 y.2];simp [M]);have Y:bits .and .u8 z 63=z%64:=aIA z y.1 y.2;have a6:bits .or .i32 (p*64) (z%64)=p*64+z%64:=aLM p (z%64) G N (by omega) (by omega);have Z:(n:Int)<(zs.length:Int):=(by omega);have a5:¬ b=F:=(by omega);obtain ⟨a7,X⟩:=y;clear S E M
 go_enter func160,ntmps160
 go_wp2
 go_region
 go_wp2
 go_end0
 exact ⟨rfl,HF.out.set0.set1,(((Below.refl F w).setCell (p:=⟨F,0,none⟩) (Nat.le_refl _) _).setCell (p:=⟨F,1,none⟩) (Nat.le_refl _) _).drew⟩
theorem pX (p:Int) (w:World):Calls prog 179 #[.int .i64 p] w fun e w'=>e=.returned (.bool (zI p))/\w=w':=by
 by_cases A:0<=p
 ·by_cases y:p<=1114111
  ·have h:Hid (zI p=true):=by simp [Hid,zI,A,y]
   go_enter func179,ntmps179
   go_wp2;go_ret;exact ⟨by rw [h.out];rfl,rfl⟩
  ·have h:Hid (zI p=false):=by simp [Hid,zI];omega
   go_enter func179,ntmps179
   go_wp2;go_ret;exact ⟨by rw [h.out];rfl,rfl⟩
 ·have h:Hid (zI p=false):=by simp [Hid,zI];omega
  go_enter func179,ntmps179
  go_wp2;go_ret;exact ⟨by rw [h.out];rfl,rfl⟩
theorem oM (p:Int) (w:World):Calls prog 167 #[.int .i64 p] w fun e w'=>e=.returned (.bool (lH p))/\w=w':=by
 by_cases A:55296<=p
 ·by_cases y:p<56320
  ·have h:Hid (lH p=true):=by simp [Hid,lH,A,y]
   go_enter func167,ntmps167
   go_wp2;go_ret;exact ⟨by rw [h.out];rfl,rfl⟩
  ·have h:Hid (lH p=false):=by simp [Hid,lH];omega
   go_enter func167,ntmps167
   go_wp2;go_ret;exact ⟨by rw [h.out];rfl,rfl⟩
 ·have h:Hid (lH p=false):=by simp [Hid,lH];omega
  go_enter func167,ntmps167
  go_wp2;go_ret;exact ⟨by rw [h.out];rfl,rfl⟩
theorem wQ (p:Int) (w:World):Calls prog 168 #[.int .i64 p] w fun e w'=>e=.returned (.bool (lP p))/\w=w':=by
 by_cases A:56320<=p
 ·by_cases y:p<=57343
  ·have h:Hid (lP p=true):=by simp [Hid,lP,A,y]
   go_enter func168,ntmps168
   go_wp2;go_ret;exact ⟨by rw [h.out];rfl,rfl⟩
  ·have h:Hid (lP p=false):=by simp [Hid,lP];omega
   go_enter func168,ntmps168
   go_wp2;go_ret;exact ⟨by rw [h.out];rfl,rfl⟩
 ·have h:Hid (lP p=false):=by simp [Hid,lP];omega
  go_enter func168,ntmps168
  go_wp2;go_ret;exact ⟨by rw [h.out];rfl,rfl⟩
theorem eP (p:Int) (w:World):Calls prog 161 #[.int .i64 p] w fun e w'=>e=.returned (.bool (bW p))/\w=w':=by
 have E:∀ (x:Bool) (w:World),(Op.unary .not (.bool x)).run prog w=.ok (.bool (!x)) w:=fun _ _=>rfl;have A:Hid (bW p=(zI p && !lH p && !lP p)):=aHT p;cases h:zI p
 ·go_enter func161,ntmps161
  go_wp2_with (go_at_call 179;refine (pX _ _).mono ?_;rintro e w' ⟨rfl,rfl⟩;rw [h])
  go_ret;exact ⟨by rw [A.out,h];rfl,rfl⟩
 ·cases y:lH p
  ·cases D:lP p
   all_goals
    go_enter func161,ntmps161
    go_wp2_with (first
     | (go_at_call 179;refine (pX _ _).mono ?_;rintro e w' ⟨rfl,rfl⟩;rw [h])
     | (go_at_call 167;refine (oM _ _).mono ?_;rintro e w' ⟨rfl,rfl⟩;rw [y])
     | (go_at_call 168;refine (wQ _ _).mono ?_;rintro e w' ⟨rfl,rfl⟩;rw [D]))
    go_ret;exact ⟨by rw [A.out,h,y,D];rfl,rfl⟩
  ·go_enter func161,ntmps161
   go_wp2_with (first
    | (go_at_call 179;refine (pX _ _).mono ?_;rintro e w' ⟨rfl,rfl⟩;rw [h])
    | (go_at_call 167;refine (oM _ _).mono ?_;rintro e w' ⟨rfl,rfl⟩;rw [y]))
   go_ret;exact ⟨by rw [A.out,h,y];rfl,rfl⟩
structure Tab (w:World):Prop where
 c0:w.cell? ⟨0,0,none⟩=some (.int .i32 0)
 c1:w.cell? ⟨0,1,none⟩=some (.int .i32 128)
 c2:w.cell? ⟨0,2,none⟩=some (.int .i32 2048)
 c3:w.cell? ⟨0,3,none⟩=some (.int .i32 65536)
 c4:w.cell? ⟨0,4,none⟩=some (.int .i32 2097152)
theorem Tab.K {w w':World} (h:Tab w) (y:w.grownBy w' none):Tab w':=
 ⟨y.cell h.c0 (by simp),y.cell h.c1 (by simp),y.cell h.c2 (by simp),y.cell h.c3 (by simp),y.cell h.c4 (by simp)⟩
theorem Tab.pos {w:World} (h:Tab w):0<w.heap.size:=World.block_lt_of_cell? w _ h.c0
theorem Tab.below {B:Nat} {w w':World} (h:Tab w) (A:Below B w w') (y:0<B):Tab w':=
 ⟨(A.cell y).trans h.c0,(A.cell y).trans h.c1,(A.cell y).trans h.c2,(A.cell y).trans h.c3,(A.cell y).trans h.c4⟩
theorem yK (k d q:Nat) (y:∀ m:Nat,m<256->(m &&& k=q ↔ m / d=q / d)) (D:k<256) (z:Int) (A:0<=z) (E:z<=255) :
  (bits .and .u8 z (k:Int)==(q:Int))=decide (z / (d:Int)=((q / d:Nat):Int)):=by
 obtain ⟨n,rfl⟩:=Int.eq_ofNat_of_zero_le A;have h:=y n (by omega);rw [u8_and_nat n k (by omega) D,Bool.eq_iff_iff];simp only [beq_iff_eq,decide_eq_true_eq];rw [<- Int.natCast_ediv];omega
theorem aHy (z:Int) (y:0<=z) (h:z<=255):(bits .and .u8 z 248==240)=decide (z / 8=30):=yK 248 8 240 (by decide) (by omega) z y h
theorem aHe (z:Int) (y:0<=z) (h:z<=255):(bits .and .u8 z 240==224)=decide (z / 16=14):=yK 240 16 224 (by decide) (by omega) z y h
theorem aIW (z:Int) (y:0<=z) (h:z<=255):(bits .and .u8 z 224==192)=decide (z / 32=6):=yK 224 32 192 (by decide) (by omega) z y h
theorem xT (w:World) (p:Int):Frm w.heap.size (w.alloc (.cells #[.int .i32 p,.int .i64 1,.bool false] 225)) p 1 false:=heap_alloc_new w _
theorem iF (w:World) (o:Obj):Below w.heap.size w (w.alloc o):=(Below.refl _ _).alloc (Nat.le_refl _) _
theorem Rd.below {q:IntKind} {B:Nat} {w w':World} {v:Value} {zs:List Int} (h:Rd q B w v zs) (J:Below B w w'):Rd q B w' v zs:=by
 obtain ⟨a,cap,hv,E⟩:=h;refine ⟨a,cap,hv,fun A=>?_⟩;obtain ⟨b,off,G,y,D⟩:=E A;exact ⟨b,off,G,y,fun j M=>(J.cell (p:=⟨b,off+j,none⟩) y).trans (D j M)⟩
theorem aMc (b off cap:Nat) (zs:List Int) (w:World) (hT:Tab w) (hv:RdB w.heap.size w (.slice (some ⟨b,off,none⟩) zs.length cap) zs) (A:Bys zs) (hm:zs.length<=4194304) (G:0<zs.length) (f8:b<w.heap.size)
  (c9:w.cell? ⟨b,off,none⟩=some (.int .u8 (zs[0]?.getD 0)))
  (hc:zs[0]?.getD 0 / 8=30) :
  Calls prog 147 #[.slice (some ⟨b,off,none⟩) zs.length cap] w fun e w'=>e=.returned (.tuple #[.int .i32 (fpP zs),.int .i64 (aL zs)])/\Below w.heap.size w w':=by
 have N:Hid (zs[0]?.getD 0 / 8=30):=hc;have J:=A.get 0;generalize Y:zs[0]?.getD 0=c at c9 J hc;have t4:(bits .and .u8 c 248==240)=true:=(by rw [aHy c J.1 J.2];simp;omega);have t3:(bits .and .u8 c 240==224)=false:=(by rw [aHe c J.1 J.2];simp;omega);have t2:(bits .and .u8 c 224==192)=false:=(by rw [aIW c J.1 J.2];simp;omega);have t1:128<=c:=(by omega);obtain ⟨i1,h6⟩:=J;have f4:Hid (zs[0]?.getD 0=c):=Y;clear hc Y;have g6:(0:Int)<(zs.length:Int):=(by omega);have g9:∀ o,(w.alloc o).cell? ⟨b,off,none⟩=some (.int .u8 c):=fun o=>(World.cell?_alloc_past _ _ _ f8).trans c9
 go_enter func147,ntmps147
 go_wp2_with fail
 have f0:=xT w c;have B0:=iF w (.cells #[.int .i32 c,.int .i64 1,.bool false] 225);have v0:=hv.below B0;generalize w.alloc (.cells #[.int .i32 c,.int .i64 1,.bool false] 225)=W0 at f0 B0 v0
 by_cases g1:eD zs 1
 ·have h5:=A.get 1;refine (mB w.heap.size _ zs c 1 false W0 f0 v0 A hm (by omega) g1.1 g1.2 (by omega) (by omega)).mono ?_;rintro e W1 ⟨rfl,fn,D⟩;obtain ⟨x1,X⟩:∃ x,x=c*64+zs[1]?.getD 0%64:=⟨_,rfl⟩;have f1:Frm w.heap.size W1 x1 2 false:=(by rw [X];simpa using fn);have v1:=v0.below D;have B1:=B0.trans D;have g8:0<=x1/\x1<16384:=(by omega);have g4:Hid (x1=c*64+zs[1]?.getD 0%64):=X;clear X fn f0 v0 B0 D
  go_wp2_with fail
  by_cases g2:eD zs 2
  ·have i3:=A.get 2;refine (mB w.heap.size _ zs x1 2 false W1 f1 v1 A hm (by omega) g2.1 g2.2 (by omega) (by omega)).mono ?_;rintro e W2 ⟨rfl,fn,D⟩;obtain ⟨x2,X⟩:∃ x,x=x1*64+zs[2]?.getD 0%64:=⟨_,rfl⟩;have f2:Frm w.heap.size W2 x2 3 false:=(by rw [X];simpa using fn);have S:=v1.below D;have B2:=B1.trans D;have g7:0<=x2/\x2<1048576:=(by omega);have d8:Hid (x2=x1*64+zs[2]?.getD 0%64):=X;clear X fn f1 v1 B1 D
   go_wp2_with fail
   by_cases g3:eD zs 3
   ·have h8:=A.get 3;refine (mB w.heap.size _ zs x2 3 false W2 f2 S A hm (by omega) g3.1 g3.2 (by omega) (by omega)).mono ?_;rintro e W3 ⟨rfl,fn,D⟩;obtain ⟨x3,X⟩:∃ x,x=x2*64+zs[3]?.getD 0%64:=⟨_,rfl⟩;have U:Frm w.heap.size W3 x3 4 false:=(by rw [X];simpa using fn);have v3:=S.below D;have B3:=B2.trans D;have h3:0<=x3/\x3<67108864:=(by omega);have f6:Hid (x3=x2*64+zs[3]?.getD 0%64):=X;clear X fn f2 S B2 D;obtain ⟨y,hy⟩:∃ y,y=((zs[0]?.getD 0%8*64+zs[1]?.getD 0%64)*64+zs[2]?.getD 0%64)*64+zs[3]?.getD 0%64:=⟨_,rfl⟩;have f7:=A.get 0;have d4:=A.get 1;have d2:=A.get 2;have d0:=A.get 3;have d1:=N.out;have b4:0<=y:=(by omega);have i0:y<2097152:=(by omega);have a9:Hid (lv zs 4=y):=(by unfold Hid;rw [hy];exact lv4 d1 g1 g2 g3);have HY:Hid (y=((zs[0]?.getD 0%8*64+zs[1]?.getD 0%64)*64+zs[2]?.getD 0%64)*64+zs[3]?.getD 0%64):=hy;clear hy d1 f7 d4 d2 d0;have q0:=U.c0;have q1:=U.c1;have q2:=U.c2;have b9:=hT.below B3 hT.pos;have e1:=b9.c4;have e2:=b9.c3;clear U v3 hT b9
    have f5:bits .and .i32 x3 2097151=y:=by
     rw [show bits .and .i32 x3 2097151=x3%2097152 by simpa using nZ 21 (by omega) x3 (by omega) (by omega)];have h0:=N.out;have Y:=f4.out;rw [Y] at h0;rw [HY.out,Y];have d4:=A.get 1;have i4:=g4.out;have d2:=A.get 2;have h7:=d8.out;have d0:=A.get 3;have i2:=f6.out;omega
    go_wp2
    go_quiet (fail)
    by_cases b2:y<65536
    ·have E:¬ hit zs 4=true:=fun h=>((wF).1 ((fH a9.out b4).1 h)).1 b2
     have M:Hid (aL zs=0):=by
      unfold Hid;rw [bN (n:=4) (by omega) (by omega) (fun m O Z G=>cI (kJ N.out m O Z G)),if_neg E]
     have HP:Hid (fpP zs = -1):=eM M.out;clear E;go_wp2;go_ret2;exact ⟨by rw [HP.out,M.out];rfl,below_drewN B3 _⟩
    ·cases ho:bW y
     ·have E:¬ hit zs 4=true:=fun h=>by
       have:=((wF).1 ((fH a9.out b4).1 h)).2;rw [ho] at this;cases this
      have M:Hid (aL zs=0):=by
       unfold Hid;rw [bN (n:=4) (by omega) (by omega) (fun m O Z G=>cI (kJ N.out m O Z G)),if_neg E]
      have HP:Hid (fpP zs = -1):=eM M.out;clear E
      go_wp2_with (go_at_call 161;refine (eP _ _).mono ?_;rintro e w' ⟨rfl,rfl⟩;rw [ho])
      go_ret2;exact ⟨by rw [HP.out,M.out];rfl,below_drewN B3 _⟩
     ·have E:hit zs 4=true:=(fH a9.out b4).2 ((wF).2 ⟨b2,ho⟩)
      have M:Hid (aL zs=4):=by
       unfold Hid;rw [bN (n:=4) (by omega) (by omega) (fun m O Z G=>cI (kJ N.out m O Z G)),if_pos E]
      have HP:Hid (fpP zs=y):=uA (by omega) M.out a9.out;clear E
      go_wp2_with (go_at_call 161;refine (eP _ _).mono ?_;rintro e w' ⟨rfl,rfl⟩;rw [ho])
      go_quiet (fail)
      go_wp2;go_ret2;exact ⟨by rw [HP.out,M.out];rfl,below_drewN (below_drewN B3 _) _⟩
   ·refine (eU w.heap.size _ zs x2 3 false W2 f2 S A hm (by omega) (by by_cases h:zs.length<=3;exact .inl h;exact .inr fun e=>g3 ⟨by omega,e⟩)).mono ?_;rintro e W3 ⟨rfl,U,D⟩;have v3:=S.below D;have B3:=B2.trans D;clear f2 S B2 D;have q2:=U.c2;clear U v3;go_wp2;go_ret2;have M:aL zs=0:=(by rw [bN (n:=4) (by omega) (by omega) (fun m O Z G=>cI (kJ N.out m O Z G)),rG (sV 3 (by omega) (by omega) (fun j O h2=>by rcases (show j=1\/j=2 by omega) with rfl | rfl<;>assumption) g3)];rfl);exact ⟨by rw [eM M,M];rfl,B3⟩
  ·refine (eU w.heap.size _ zs x1 2 false W1 f1 v1 A hm (by omega) (by by_cases h:zs.length<=2;exact .inl h;exact .inr fun e=>g2 ⟨by omega,e⟩)).mono ?_;rintro e W2 ⟨rfl,f2,D⟩;have S:=v1.below D;have B2:=B1.trans D;clear f1 v1 B1 D
   go_wp2_with fail
   refine (eU w.heap.size _ zs x1 2 true W2 f2 S A hm (by omega) (by by_cases h:zs.length<=2;exact .inl h;exact .inr fun e=>g2 ⟨by omega,e⟩)).mono ?_;rintro e W3 ⟨rfl,U,D⟩;have v3:=S.below D;have B3:=B2.trans D;clear f2 S B2 D;have q2:=U.c2;clear U v3;go_wp2;go_ret2;have M:aL zs=0:=(by rw [bN (n:=4) (by omega) (by omega) (fun m O Z G=>cI (kJ N.out m O Z G)),rG (sV 2 (by omega) (by omega) (fun j O h2=>by rcases (show j=1 by omega) with rfl;exact g1) g2)];rfl);exact ⟨by rw [eM M,M];rfl,B3⟩
 ·refine (eU w.heap.size _ zs c 1 false W0 f0 v0 A hm (by omega) (by by_cases h:zs.length<=1;exact .inl h;exact .inr fun e=>g1 ⟨by omega,e⟩)).mono ?_;rintro e W1 ⟨rfl,f1,D⟩;have v1:=v0.below D;have B1:=B0.trans D;clear f0 v0 B0 D
  go_wp2_with fail
  refine (eU w.heap.size _ zs c 1 true W1 f1 v1 A hm (by omega) (by by_cases h:zs.length<=1;exact .inl h;exact .inr fun e=>g1 ⟨by omega,e⟩)).mono ?_;rintro e W2 ⟨rfl,f2,D⟩;have S:=v1.below D;have B2:=B1.trans D;clear f1 v1 B1 D
  go_wp2_with fail
  refine (eU w.heap.size _ zs c 1 true W2 f2 S A hm (by omega) (by by_cases h:zs.length<=1;exact .inl h;exact .inr fun e=>g1 ⟨by omega,e⟩)).mono ?_;rintro e W3 ⟨rfl,U,D⟩;have v3:=S.below D;have B3:=B2.trans D;clear f2 S B2 D;have q2:=U.c2;clear U v3;go_wp2;go_ret2;have M:aL zs=0:=(by rw [bN (n:=4) (by omega) (by omega) (fun m O Z G=>cI (kJ N.out m O Z G)),rG (sV 1 (by omega) (by omega) (fun j O h2=>absurd h2 (by omega)) g1)];rfl);exact ⟨by rw [eM M,M];rfl,B3⟩
theorem aMh (b off cap:Nat) (zs:List Int) (w:World) (hT:Tab w) (hv:RdB w.heap.size w (.slice (some ⟨b,off,none⟩) zs.length cap) zs) (A:Bys zs) (hm:zs.length<=4194304) (E:0<zs.length) (d1:b<w.heap.size)
  (c5:w.cell? ⟨b,off,none⟩=some (.int .u8 (zs[0]?.getD 0)))
  (hc:zs[0]?.getD 0 / 16=14) :
  Calls prog 147 #[.slice (some ⟨b,off,none⟩) zs.length cap] w fun e w'=>e=.returned (.tuple #[.int .i32 (fpP zs),.int .i64 (aL zs)])/\Below w.heap.size w w':=by
 have M:Hid (zs[0]?.getD 0 / 16=14):=hc;have J:=A.get 0;generalize O:zs[0]?.getD 0=c at c5 J hc;have t4:(bits .and .u8 c 248==240)=false:=(by rw [aHy c J.1 J.2];simp;omega);have t3:(bits .and .u8 c 240==224)=true:=(by rw [aHe c J.1 J.2];simp;omega);have t2:(bits .and .u8 c 224==192)=false:=(by rw [aIW c J.1 J.2];simp;omega);have t1:128<=c:=(by omega);obtain ⟨g3,f9⟩:=J;have d4:Hid (zs[0]?.getD 0=c):=O;clear hc O;have d9:(0:Int)<(zs.length:Int):=(by omega);have f4:∀ o,(w.alloc o).cell? ⟨b,off,none⟩=some (.int .u8 c):=fun o=>(World.cell?_alloc_past _ _ _ d1).trans c5
 go_enter func147,ntmps147
 go_wp2_with fail
 have f0:=xT w c;have B0:=iF w (.cells #[.int .i32 c,.int .i64 1,.bool false] 225);have v0:=hv.below B0;generalize w.alloc (.cells #[.int .i32 c,.int .i64 1,.bool false] 225)=W0 at f0 B0 v0
 by_cases g1:eD zs 1
 ·have f8:=A.get 1;refine (mB w.heap.size _ zs c 1 false W0 f0 v0 A hm (by omega) g1.1 g1.2 (by omega) (by omega)).mono ?_;rintro e W1 ⟨rfl,fn,G⟩;obtain ⟨x1,hx⟩:∃ x,x=c*64+zs[1]?.getD 0%64:=⟨_,rfl⟩;have f1:Frm w.heap.size W1 x1 2 false:=(by rw [hx];simpa using fn);have U:=v0.below G;have B1:=B0.trans G;have f3:0<=x1/\x1<16384:=(by omega);have d8:Hid (x1=c*64+zs[1]?.getD 0%64):=hx;clear hx fn f0 v0 B0 G
  go_wp2_with fail
  by_cases g2:eD zs 2
  ·have g6:=A.get 2;refine (mB w.heap.size _ zs x1 2 false W1 f1 U A hm (by omega) g2.1 g2.2 (by omega) (by omega)).mono ?_;rintro e W2 ⟨rfl,fn,G⟩;obtain ⟨Z,hx⟩:∃ x,x=x1*64+zs[2]?.getD 0%64:=⟨_,rfl⟩;have f2:Frm w.heap.size W2 Z 3 false:=(by rw [hx];simpa using fn);have v2:=U.below G;have B2:=B1.trans G;have f6:0<=Z/\Z<1048576:=(by omega);have d6:Hid (Z=x1*64+zs[2]?.getD 0%64):=hx;clear hx fn f1 U B1 G;obtain ⟨y,hy⟩:∃ y,y=(zs[0]?.getD 0%16*64+zs[1]?.getD 0%64)*64+zs[2]?.getD 0%64:=⟨_,rfl⟩;have c9:=A.get 0;have b9:=A.get 1;have b8:=A.get 2;have b5:=M.out;have b3:0<=y:=(by omega);have b1:y<65536:=(by omega);have Y:Hid (lv zs 3=y):=(by unfold Hid;rw [hy];exact lv3 b5 g1 g2);have HY:Hid (y=(zs[0]?.getD 0%16*64+zs[1]?.getD 0%64)*64+zs[2]?.getD 0%64):=hy;clear hy b5 c9 b9 b8;have q0:=f2.c0;have q1:=f2.c1;have q2:=f2.c2;have b2:=hT.below B2 hT.pos;have e1:=b2.c3;have e2:=b2.c2;clear f2 v2 hT b2
   have d5:bits .and .i32 Z 65535=y:=by
    rw [show bits .and .i32 Z 65535=Z%65536 by simpa using nZ 16 (by omega) Z (by omega) (by omega)];have h0:=M.out;have O:=d4.out;rw [O] at h0;rw [HY.out,O];have b9:=A.get 1;have g5:=d8.out;have b8:=A.get 2;have g7:=d6.out;omega
   go_wp2
   go_quiet (fail)
   by_cases a5:y<2048
   ·have D:¬ hit zs 3=true:=fun h=>((vV b1).1 ((fH Y.out b3).1 h)).1 a5
    have N:Hid (aL zs=0):=by
     unfold Hid;rw [bN (n:=3) (by omega) (by omega) (fun m S X E=>cI (lZ M.out m S X E)),if_neg D]
    have HP:Hid (fpP zs = -1):=eM N.out;clear D;go_wp2;go_ret2;exact ⟨by rw [HP.out,N.out];rfl,below_drewN B2 _⟩
   ·cases ho:bW y
    ·have D:¬ hit zs 3=true:=fun h=>by
      have:=((vV b1).1 ((fH Y.out b3).1 h)).2;rw [ho] at this;cases this
     have N:Hid (aL zs=0):=by
      unfold Hid;rw [bN (n:=3) (by omega) (by omega) (fun m S X E=>cI (lZ M.out m S X E)),if_neg D]
     have HP:Hid (fpP zs = -1):=eM N.out;clear D
     go_wp2_with (go_at_call 161;refine (eP _ _).mono ?_;rintro e w' ⟨rfl,rfl⟩;rw [ho])
     go_ret2;exact ⟨by rw [HP.out,N.out];rfl,below_drewN B2 _⟩
    ·have D:hit zs 3=true:=(fH Y.out b3).2 ((vV b1).2 ⟨a5,ho⟩)
     have N:Hid (aL zs=3):=by
      unfold Hid;rw [bN (n:=3) (by omega) (by omega) (fun m S X E=>cI (lZ M.out m S X E)),if_pos D]
     have HP:Hid (fpP zs=y):=uA (by omega) N.out Y.out;clear D
     go_wp2_with (go_at_call 161;refine (eP _ _).mono ?_;rintro e w' ⟨rfl,rfl⟩;rw [ho])
     go_quiet (fail)
     go_wp2;go_ret2;exact ⟨by rw [HP.out,N.out];rfl,below_drewN (below_drewN B2 _) _⟩
  ·refine (eU w.heap.size _ zs x1 2 false W1 f1 U A hm (by omega) (by by_cases h:zs.length<=2;exact .inl h;exact .inr fun e=>g2 ⟨by omega,e⟩)).mono ?_;rintro e W2 ⟨rfl,f2,G⟩;have v2:=U.below G;have B2:=B1.trans G;clear f1 U B1 G;have q2:=f2.c2;clear f2 v2;go_wp2;go_ret2;have N:aL zs=0:=(by rw [bN (n:=3) (by omega) (by omega) (fun m S X E=>cI (lZ M.out m S X E)),rG (sV 2 (by omega) (by omega) (fun j S h2=>by rcases (show j=1 by omega) with rfl;exact g1) g2)];rfl);exact ⟨by rw [eM N,N];rfl,B2⟩
 ·refine (eU w.heap.size _ zs c 1 false W0 f0 v0 A hm (by omega) (by by_cases h:zs.length<=1;exact .inl h;exact .inr fun e=>g1 ⟨by omega,e⟩)).mono ?_;rintro e W1 ⟨rfl,f1,G⟩;have U:=v0.below G;have B1:=B0.trans G;clear f0 v0 B0 G
  go_wp2_with fail
  refine (eU w.heap.size _ zs c 1 true W1 f1 U A hm (by omega) (by by_cases h:zs.length<=1;exact .inl h;exact .inr fun e=>g1 ⟨by omega,e⟩)).mono ?_;rintro e W2 ⟨rfl,f2,G⟩;have v2:=U.below G;have B2:=B1.trans G;clear f1 U B1 G;have q2:=f2.c2;clear f2 v2;go_wp2;go_ret2;have N:aL zs=0:=(by rw [bN (n:=3) (by omega) (by omega) (fun m S X E=>cI (lZ M.out m S X E)),rG (sV 1 (by omega) (by omega) (fun j S h2=>absurd h2 (by omega)) g1)];rfl);exact ⟨by rw [eM N,N];rfl,B2⟩
theorem aMf (b off cap:Nat) (zs:List Int) (w:World) (hT:Tab w) (hv:RdB w.heap.size w (.slice (some ⟨b,off,none⟩) zs.length cap) zs) (G:Bys zs) (hm:zs.length<=4194304) (D:0<zs.length) (b9:b<w.heap.size)
  (b4:w.cell? ⟨b,off,none⟩=some (.int .u8 (zs[0]?.getD 0)))
  (hc:zs[0]?.getD 0 / 32=6) :
  Calls prog 147 #[.slice (some ⟨b,off,none⟩) zs.length cap] w fun e w'=>e=.returned (.tuple #[.int .i32 (fpP zs),.int .i64 (aL zs)])/\Below w.heap.size w w':=by
 have J:Hid (zs[0]?.getD 0 / 32=6):=hc;have E:=G.get 0;generalize M:zs[0]?.getD 0=c at b4 E hc;have t4:(bits .and .u8 c 248==240)=false:=(by rw [aHy c E.1 E.2];simp;omega);have t3:(bits .and .u8 c 240==224)=false:=(by rw [aHe c E.1 E.2];simp;omega);have t2:(bits .and .u8 c 224==192)=true:=(by rw [aIW c E.1 E.2];simp;omega);have t1:128<=c:=(by omega);obtain ⟨f4,d5⟩:=E;have c5:Hid (zs[0]?.getD 0=c):=M;clear hc M;have c9:(0:Int)<(zs.length:Int):=(by omega);have d2:∀ o,(w.alloc o).cell? ⟨b,off,none⟩=some (.int .u8 c):=fun o=>(World.cell?_alloc_past _ _ _ b9).trans b4
 go_enter func147,ntmps147
 go_wp2_with fail
 have f0:=xT w c;have B0:=iF w (.cells #[.int .i32 c,.int .i64 1,.bool false] 225);have Z:=hv.below B0;generalize w.alloc (.cells #[.int .i32 c,.int .i64 1,.bool false] 225)=W0 at f0 B0 Z
 by_cases g1:eD zs 1
 ·have d4:=G.get 1;refine (mB w.heap.size _ zs c 1 false W0 f0 Z G hm (by omega) g1.1 g1.2 (by omega) (by omega)).mono ?_;rintro e W1 ⟨rfl,fn,Y⟩;obtain ⟨X,hx⟩:∃ x,x=c*64+zs[1]?.getD 0%64:=⟨_,rfl⟩;have f1:Frm w.heap.size W1 X 2 false:=(by rw [hx];simpa using fn);have v1:=Z.below Y;have B1:=B0.trans Y;have d0:0<=X/\X<16384:=(by omega);have c8:Hid (X=c*64+zs[1]?.getD 0%64):=hx;clear hx fn f0 Z B0 Y;obtain ⟨y,hy⟩:∃ y,y=zs[0]?.getD 0%32*64+zs[1]?.getD 0%64:=⟨_,rfl⟩;have b6:=G.get 0;have b3:=G.get 1;have b0:=J.out;have a5:0<=y:=(by omega);have a6:y<2048:=(by omega);have O:Hid (lv zs 2=y):=(by unfold Hid;rw [hy];exact lv2 b0 g1);have HY:Hid (y=zs[0]?.getD 0%32*64+zs[1]?.getD 0%64):=hy;clear hy b0 b6 b3;have q0:=f1.c0;have q1:=f1.c1;have q2:=f1.c2;have a7:=hT.below B1 hT.pos;have e1:=a7.c2;have e2:=a7.c1;clear f1 v1 hT a7
  have c6:bits .and .i32 X 2047=y:=by
   rw [show bits .and .i32 X 2047=X%2048 by simpa using nZ 11 (by omega) X (by omega) (by omega)];have h0:=J.out;have M:=c5.out;rw [M] at h0;rw [HY.out,M];have b3:=G.get 1;have f3:=c8.out;omega
  go_wp2
  go_quiet (fail)
  by_cases U:y<128
  ·have A:¬ hit zs 2=true:=fun h=>((vH a6).1 ((fH O.out a5).1 h)).1 U
   have N:Hid (aL zs=0):=by
    unfold Hid;rw [bN (n:=2) (by omega) (by omega) (fun m S h4 D=>cI (oC J.out m S h4 D)),if_neg A]
   have HP:Hid (fpP zs = -1):=eM N.out;clear A;go_wp2;go_ret2;exact ⟨by rw [HP.out,N.out];rfl,below_drewN B1 _⟩
  ·cases ho:bW y
   ·have A:¬ hit zs 2=true:=fun h=>by
     have:=((vH a6).1 ((fH O.out a5).1 h)).2;rw [ho] at this;cases this
    have N:Hid (aL zs=0):=by
     unfold Hid;rw [bN (n:=2) (by omega) (by omega) (fun m S h4 D=>cI (oC J.out m S h4 D)),if_neg A]
    have HP:Hid (fpP zs = -1):=eM N.out;clear A
    go_wp2_with (go_at_call 161;refine (eP _ _).mono ?_;rintro e w' ⟨rfl,rfl⟩;rw [ho])
    go_ret2;exact ⟨by rw [HP.out,N.out];rfl,below_drewN B1 _⟩
   ·have A:hit zs 2=true:=(fH O.out a5).2 ((vH a6).2 ⟨U,ho⟩)
    have N:Hid (aL zs=2):=by
     unfold Hid;rw [bN (n:=2) (by omega) (by omega) (fun m S h4 D=>cI (oC J.out m S h4 D)),if_pos A]
    have HP:Hid (fpP zs=y):=uA (by omega) N.out O.out;clear A
    go_wp2_with (go_at_call 161;refine (eP _ _).mono ?_;rintro e w' ⟨rfl,rfl⟩;rw [ho])
    go_quiet (fail)
    go_wp2;go_ret2;exact ⟨by rw [HP.out,N.out];rfl,below_drewN (below_drewN B1 _) _⟩
 ·refine (eU w.heap.size _ zs c 1 false W0 f0 Z G hm (by omega) (by by_cases h:zs.length<=1;exact .inl h;exact .inr fun e=>g1 ⟨by omega,e⟩)).mono ?_;rintro e W1 ⟨rfl,f1,Y⟩;have v1:=Z.below Y;have B1:=B0.trans Y;clear f0 Z B0 Y;have q2:=f1.c2;clear f1 v1;go_wp2;go_ret2;have N:aL zs=0:=(by rw [bN (n:=2) (by omega) (by omega) (fun m S h4 D=>cI (oC J.out m S h4 D)),rG (sV 1 (by omega) (by omega) (fun j S h2=>absurd h2 (by omega)) g1)];rfl);exact ⟨by rw [eM N,N];rfl,B1⟩
theorem aLA (b off cap:Nat) (zs:List Int) (w:World) (S:Tab w) (_hv:RdB w.heap.size w (.slice (some ⟨b,off,none⟩) zs.length cap) zs) (X:Bys zs) (hm:zs.length<=4194304) (M:0<zs.length) (O:b<w.heap.size)
  (N:w.cell? ⟨b,off,none⟩=some (.int .u8 (zs[0]?.getD 0)))
  (E:zs[0]?.getD 0<128) :
  Calls prog 147 #[.slice (some ⟨b,off,none⟩) zs.length cap] w fun e w'=>e=.returned (.tuple #[.int .i32 (fpP zs),.int .i64 (aL zs)])/\Below w.heap.size w w':=by
 have h:=X.get 0
 have G:lv zs 1=zs[0]?.getD 0:=by
  rw [jL (by omega) (by rw [lC _ E];omega),lC _ E];rfl
 have D:bW (zs[0]?.getD 0)=true:=(by simp [bW];omega);have y:cK (zs[0]?.getD 0)=1:=(by unfold cK;rw [if_pos D,if_pos E]);have A:hit zs 1=true:=(fH G h.1).2 y
 have HZ:Hid (aL zs=1):=by
  unfold Hid;rw [bN (n:=1) (by omega) (by omega) (fun m h1 h4 M=>cI (aA1 h.1 E m h1 h4 M)),if_pos A]
 have Z:Hid (fpP zs=zs[0]?.getD 0):=uA (by omega) HZ.out G;clear G y A;generalize zs[0]?.getD 0=c at N h E D Z;have t4:(bits .and .u8 c 248==240)=false:=(by rw [aHy c h.1 h.2];simp;omega);have t3:(bits .and .u8 c 240==224)=false:=(by rw [aHe c h.1 h.2];simp;omega);have t2:(bits .and .u8 c 224==192)=false:=(by rw [aIW c h.1 h.2];simp;omega);have t1:c<128:=E;obtain ⟨b0,a7⟩:=h;have Y:(0:Int)<(zs.length:Int):=(by omega);have a4:∀ o,(w.alloc o).cell? ⟨b,off,none⟩=some (.int .u8 c):=fun o=>(World.cell?_alloc_past _ _ _ O).trans N;have f0:=xT w c;have B0:=iF w (.cells #[.int .i32 c,.int .i64 1,.bool false] 225);have q0:=f0.c0;have q1:=f0.c1;have q2:=f0.c2;have J:=S.below B0 S.pos;have e1:=J.c1;have e2:=J.c0;clear f0 J S E
 have U:bits .and .i32 c 127=c:=by
  rw [show bits .and .i32 c 127=c%128 by simpa using nZ 7 (by omega) c (by omega) (by omega)];omega
 go_enter func147,ntmps147
 go_wp2_with fail
 go_quiet (fail)
 go_wp2_with (go_at_call 161;refine (eP _ _).mono ?_;rintro e w' ⟨rfl,rfl⟩;rw [D])
 go_quiet (fail)
 go_wp2;go_ret2;exact ⟨by rw [Z.out,HZ.out];rfl,below_drewN (below_drewN B0 _) _⟩
theorem aKL (b off cap:Nat) (zs:List Int) (w:World) (_hT:Tab w) (_hv:RdB w.heap.size w (.slice (some ⟨b,off,none⟩) zs.length cap) zs) (M:Bys zs) (_hm:zs.length<=4194304) (X:0<zs.length) (J:b<w.heap.size)
  (E:w.cell? ⟨b,off,none⟩=some (.int .u8 (zs[0]?.getD 0)))
  (G:(128:Int)<=zs[0]?.getD 0) (A:¬ zs[0]?.getD 0 / 32=6) (D:¬ zs[0]?.getD 0 / 16=14) (y:¬ zs[0]?.getD 0 / 8=30) :
  Calls prog 147 #[.slice (some ⟨b,off,none⟩) zs.length cap] w fun e w'=>e=.returned (.tuple #[.int .i32 (fpP zs),.int .i64 (aL zs)])/\Below w.heap.size w w':=by
 have h:=M.get 0;have S:Hid (aL zs=0):=aEj (fun m h1 Z=>cI (aGy G A D y m h1 Z));have U:Hid (fpP zs = -1):=eM S.out;generalize zs[0]?.getD 0=c at E h G A D y;have t4:(bits .and .u8 c 248==240)=false:=(by rw [aHy c h.1 h.2];simp;omega);have t3:(bits .and .u8 c 240==224)=false:=(by rw [aHe c h.1 h.2];simp;omega);have t2:(bits .and .u8 c 224==192)=false:=(by rw [aIW c h.1 h.2];simp;omega);have t1:128<=c:=(by omega);obtain ⟨a6,Y⟩:=h;clear G A D y;have N:(0:Int)<(zs.length:Int):=(by omega);have O:∀ o,(w.alloc o).cell? ⟨b,off,none⟩=some (.int .u8 c):=fun o=>(World.cell?_alloc_past _ _ _ J).trans E;have B0:=iF w (.cells #[.int .i32 c,.int .i64 1,.bool true] 225)
 go_enter func147,ntmps147
 go_wp2;go_ret2;exact ⟨by rw [U.out,S.out];rfl,B0⟩
theorem qO (v:Value) (zs:List Int) (w:World) (E:Tab w) (hv:RdB w.heap.size w v zs) (D:Bys zs) (M:zs.length<=4194304) (y:0<zs.length) :
  Calls prog 147 #[v] w fun e w'=>e=.returned (.tuple #[.int .i32 (fpP zs),.int .i64 (aL zs)])/\Below w.heap.size w w':=by
 obtain ⟨a,cap,G,U⟩:=hv;obtain ⟨b,off,Z,J,X⟩:=U (fun h=>by simp [h] at y);subst Z;subst G;have hv:RdB w.heap.size w (.slice (some ⟨b,off,none⟩) zs.length cap) zs:=⟨_,cap,rfl,U⟩;have A:w.cell? ⟨b,off,none⟩=some (.int .u8 (zs[0]?.getD 0)):=by simpa using X 0 y
 by_cases Y:zs[0]?.getD 0<128
 ·exact aLA b off cap zs w E hv D M y J A Y
 ·by_cases O:zs[0]?.getD 0 / 32=6
  ·exact aMf b off cap zs w E hv D M y J A O
  ·by_cases S:zs[0]?.getD 0 / 16=14
   ·exact aMh b off cap zs w E hv D M y J A S
   ·by_cases N:zs[0]?.getD 0 / 8=30
    ·exact aMc b off cap zs w E hv D M y J A N
    ·exact aKL b off cap zs w E hv D M y J A (by omega) O S N
theorem rJ (w:World) (a:Addr) (u:Value):w.grownBy (w.setCell a u) (some a.block):=
 ⟨rfl,rfl,rfl,by simp,fun k _ h=>heap_setCell_other w a k u (fun e=>h (by simp [e]))⟩
theorem cP {B:Nat} {w:World} {e:TypeId} {size n:Nat} {v:Value} {xs:List Value} (h:w.ownsRow B e size v n xs) (a:Addr) (u:Value) (y:v.ownBlock≠some a.block):(w.setCell a u).ownsRow B e size v n xs:=
 World.ownsRow.kept h (rJ w a u) (.inr y)
theorem sR {W y:World} {a:Addr} {v:Value} (A:W.grownBy y none) (h:W.cell? a=some v) (D:W.frozen? a=false):y.cell? a=some v/\y.frozen? a=false:=
 ⟨A.cell h (by simp),(World.frozen?_of_block (A.block a.block (World.block_lt_of_cell? W a h) (by simp))).trans D⟩
structure aHn (B:Nat) (w:World) (b o:Nat) (p:Pc) (tv:Value):Prop where
 k:w.cell? ⟨b,o,none⟩=some (.int .i64 p.k)
 t:w.cell? ⟨b,o+1,none⟩=some tv
 n:w.cell? ⟨b,o+2,none⟩=some (.int .i64 p.n)
 rd:RdB B w tv p.t
 sl:Sl tv p.t.length
def RdP (B:Nat) (w:World) (v:Value) (doc:List Pc):Prop:=
 ∃ a cap,v=.slice a doc.length cap/\doc.length<=cap/\cap<=maxLen/\(doc≠[]->∃ b off,a=some ⟨b,off,none⟩/\b<B/\∀ j p,doc[j]?=some p->∃ tv,aHn B w b (off+j*3) p tv)
theorem aHn.beside {B:Nat} {w w':World} {b o:Nat} {p:Pc} {tv:Value} {y:Option Nat} (h:aHn B w b o p tv) (G:b<B) (A:w.grownBy w' y) (E:∀ k,y=some k->B<=k):aHn B w' b o p tv:=
 have D:some b≠y:=fun e=>by have:=E b e.symm;omega
 ⟨A.cell h.k D,A.cell h.t D,A.cell h.n D,h.rd.beside A E,h.sl⟩
theorem RdP.beside {B:Nat} {w w':World} {v:Value} {doc:List Pc} {y:Option Nat} (h:RdP B w v doc) (O:w.grownBy w' y) (J:∀ k,y=some k->B<=k):RdP B w' v doc:=by
 obtain ⟨a,cap,hv,G,X,N⟩:=h;refine ⟨a,cap,hv,G,X,fun E=>?_⟩;obtain ⟨b,off,S,A,D⟩:=N E;refine ⟨b,off,S,A,fun j p M=>?_⟩;obtain ⟨tv,U⟩:=D j p M;exact ⟨tv,U.beside A O J⟩
theorem RdP.K {B:Nat} {w w':World} {v:Value} {doc:List Pc} (h:RdP B w v doc) (y:w.grownBy w' none):RdP B w' v doc:=h.beside y (fun _ e=>by cases e)
theorem Rd.wide {q:IntKind} {B B':Nat} {w:World} {v:Value} {zs:List Int} (h:Rd q B w v zs) (G:B<=B'):Rd q B' w v zs:=by
 obtain ⟨a,cap,hv,D⟩:=h;refine ⟨a,cap,hv,fun A=>?_⟩;obtain ⟨b,off,E,J,y⟩:=D A;exact ⟨b,off,E,by omega,y⟩
theorem RdP.wide {B B':Nat} {w:World} {v:Value} {doc:List Pc} (h:RdP B w v doc) (J:B<=B'):RdP B' w v doc:=by
 obtain ⟨a,cap,hv,E,O,M⟩:=h;refine ⟨a,cap,hv,E,O,fun D=>?_⟩;obtain ⟨b,off,N,S,A⟩:=M D;refine ⟨b,off,N,by omega,fun j p G=>?_⟩;obtain ⟨tv,y⟩:=A j p G;exact ⟨tv,⟨y.k,y.t,y.n,y.rd.wide J,y.sl⟩⟩
theorem RdP.at {B:Nat} {w:World} {v:Value} {doc:List Pc} (h:RdP B w v doc) (j:Nat) (y:j<doc.length) :
  ∃ b off cap tv,v=.slice (some ⟨b,off,none⟩) doc.length cap/\b<B/\aHn B w b (off+j*3) doc[j] tv:=by
 obtain ⟨a,cap,hv,M,N,D⟩:=h;obtain ⟨b,off,G,J,A⟩:=D (fun e=>by rw [e] at y;simp at y);obtain ⟨tv,E⟩:=A j doc[j] (by simp [y]);exact ⟨b,off,cap,tv,by rw [hv,G],J,E⟩
end Go.Proofs.YtmfehflibkokbaaGreatDoor
