import Derived.Test.YtckcaefnokeodaaGreatDoorMAA
set_option maxHeartbeats 16000000
set_option maxRecDepth 100000
namespace Go.Proofs.YtckcaefnokeodaaGreatDoor
open Go.Proofs.Tryz Go.RowKit List World
theorem aG0 (c:Nat) (n:Nat) (A:c<256) (D:n<256) (h:c ||| n=c+n):bits .or .u8 (c:Int) (n:Int)=(c:Int)+n:=by
 rw [u8_or_nat c n A D,h];omega
theorem aM7 (x:Int) (h:0<=x) (D:x<64):bits .or .u8 128 x=128+x:=by
 obtain ⟨n,rfl⟩:=Int.eq_ofNat_of_zero_le h;have A:∀ m:Nat,m<64->128 ||| m=128+m:=(by decide);exact aG0 128 n (by omega) (by omega) (A n (by omega))
theorem aM0 (x:Int) (h:0<=x) (D:x<32):bits .or .u8 192 x=192+x:=by
 obtain ⟨n,rfl⟩:=Int.eq_ofNat_of_zero_le h;have A:∀ m:Nat,m<32->192 ||| m=192+m:=(by decide);exact aG0 192 n (by omega) (by omega) (A n (by omega))
theorem aNj (x:Int) (h:0<=x) (D:x<16):bits .or .u8 224 x=224+x:=by
 obtain ⟨n,rfl⟩:=Int.eq_ofNat_of_zero_le h;have A:∀ m:Nat,m<16->224 ||| m=224+m:=(by decide);exact aG0 224 n (by omega) (by omega) (A n (by omega))
theorem aNb (x:Int) (h:0<=x) (D:x<8):bits .or .u8 240 x=240+x:=by
 obtain ⟨n,rfl⟩:=Int.eq_ofNat_of_zero_le h;have A:∀ m:Nat,m<8->240 ||| m=240+m:=(by decide);exact aG0 240 n (by omega) (by omega) (A n (by omega))
theorem sJ (a:Nat) (h:a<4294967296):(BitVec.ofInt 32 (a:Int)).toNat=a:=by
 rw [BitVec.ofInt_natCast,BitVec.toNat_ofNat];exact Nat.mod_eq_of_lt (by omega)
theorem nS (n:Int) (h:0<=n) (A:n<2147483648):IntKind.i32.wrap n=n:=by
 simp [IntKind.wrap,IntKind.bits,IntKind.signed];omega
theorem aEW (a b:Nat) (h:a<2147483648) (D:b<2147483648):bits .and .i32 (a:Int) (b:Int)=((a &&& b:Nat):Int):=by
 have A:a &&& b<2 ^ 31:=Nat.and_lt_two_pow _ (by omega)
 show IntKind.i32.wrap ((BitVec.ofInt 32 (a:Int) &&& BitVec.ofInt 32 (b:Int)).toNat:Int)=_
 rw [BitVec.toNat_and,sJ a (by omega),sJ b (by omega),nS _ (by omega) (by omega)]
theorem aFA (a b:Nat) (h:a<2147483648) (D:b<2147483648):bits .or .i32 (a:Int) (b:Int)=((a ||| b:Nat):Int):=by
 have A:a ||| b<2 ^ 31:=Nat.or_lt_two_pow (by omega) (by omega)
 show IntKind.i32.wrap ((BitVec.ofInt 32 (a:Int) ||| BitVec.ofInt 32 (b:Int)).toNat:Int)=_
 rw [BitVec.toNat_or,sJ a (by omega),sJ b (by omega),nS _ (by omega) (by omega)]
theorem oZ (k:Nat) (A:k<31) (p:Int) (h:0<=p) (D:p<2147483648):bits .and .i32 p (((2 ^ k - 1:Nat):Int))=p%((2 ^ k:Nat):Int):=by
 obtain ⟨n,rfl⟩:=Int.eq_ofNat_of_zero_le h;have E:2 ^ k<=2 ^ 30:=Nat.pow_le_pow_right (by omega) (by omega);rw [aEW n _ (by omega) (by omega),Nat.and_two_pow_sub_one_eq_mod];omega
theorem aM2 (p:Int) (h:0<=p) (A:p<2147483648):bits .and .i32 p 63=p%64:=by
 simpa using oZ 6 (by omega) p h A
def Frm (F:Nat) (w:World) (p n:Int) (c:Bool):Prop:=w.heap[F]?=some (.cells #[.int .i32 p,.int .i64 n,.bool c] 227 (0,0))
theorem Frm.c0 {F w p n c} (h:Frm F w p n c):w.cell? ⟨F,0,none⟩=some (.int .i32 p):=by rw [cell_of_row w F 0 _ _ _ h];rfl
theorem Frm.c1 {F w p n c} (h:Frm F w p n c):w.cell? ⟨F,1,none⟩=some (.int .i64 n):=by rw [cell_of_row w F 1 _ _ _ h];rfl
theorem Frm.c2 {F w p n c} (h:Frm F w p n c):w.cell? ⟨F,2,none⟩=some (.bool c):=by rw [cell_of_row w F 2 _ _ _ h];rfl
theorem Frm.fr {F w p n c} (h:Frm F w p n c) (j:Nat):w.frozen? ⟨F,j,none⟩=false:=frozen_of_row w F j _ _ h
theorem Frm.set0 {F w p n} {q:Int} {c} (h:Frm F w p n c):Frm F (w.setCell ⟨F,0,none⟩ (.int .i32 q)) q n c:=heap_setCell_same w F 0 _ _ _ h
theorem Frm.set1 {F w p n} {q:Int} {c} (h:Frm F w p n c):Frm F (w.setCell ⟨F,1,none⟩ (.int .i64 q)) p q c:=heap_setCell_same w F 1 _ _ _ h
theorem Frm.set2 {F w p n c} {b:Bool} (h:Frm F w p n c):Frm F (w.setCell ⟨F,2,none⟩ (.bool b)) p n b:=heap_setCell_same w F 2 _ _ _ h
theorem aGl (z:Int) (G:0<=z) (H:z<=255):(bits .and .u8 z 192 != 128) = !decide (z / 64=2):=by
 obtain ⟨n,rfl⟩:=Int.eq_ofNat_of_zero_le G;have D:∀ m:Nat,m<256->(m &&& 192=128 ↔ m / 64=2):=(by decide);have h:=D n (by omega);have e:bits .and .u8 (n:Int) 192=((n &&& 192:Nat):Int):=u8_and_nat n 192 (by omega) (by omega);rw [e]
 by_cases A:n / 64=2
 .rw [h.2 A];simp;omega
 .have:¬ n &&& 192=128:=fun x=>A (h.1 x);have F:¬ (n:Int) / 64=2:=(by omega);have E:¬ ((n &&& 192:Nat):Int)=128:=(by omega);simp [F,E]
theorem aHV (z:Int) (h:0<=z) (D:z<=255):bits .and .u8 z 63=z%64:=by
 obtain ⟨n,rfl⟩:=Int.eq_ofNat_of_zero_le h;have e:bits .and .u8 (n:Int) 63=((n &&& 63:Nat):Int):=u8_and_nat n 63 (by omega) (by omega);have A:n &&& 63=n%64:=(by simpa using Nat.and_two_pow_sub_one_eq_mod n 6);rw [e,A];omega
theorem aMR (p z:Int) (E:0<=p) (F:p<16777216) (h:0<=z) (D:z<64):bits .or .i32 (p*64) z=p*64+z:=by
 obtain ⟨n,rfl⟩:=Int.eq_ofNat_of_zero_le E;obtain ⟨m,rfl⟩:=Int.eq_ofNat_of_zero_le h;have e:bits .or .i32 ((n*64:Nat):Int) (m:Int)=((n*64 ||| m:Nat):Int):=aFA (n*64) m (by omega) (by omega)
 have A:n*64 ||| m=n*64+m:=by
  have:=Nat.shiftLeft_add_eq_or_of_lt (i:=6) (b:=m) (by omega) n;rw [Nat.shiftLeft_eq] at this;exact this.symm
 rw [A] at e;rw [show ((n:Int)*64)=((n*64:Nat):Int) by omega,e];omega
theorem fC (F:Nat) (v:Value) (A:List Int) (p:Int) (n:Nat) (c:Bool) (w:World) (G:Frm F w p n c) (hv:RdB F w v A) (I:Bys A) (_hm:A.length<=4194304) (_hn:n<=4)
  (N:A.length<=n\/¬ A[n]?.getD 0 / 64=2) :
  Calls prog 166 #[.pointer (some ⟨F,0,none⟩),v] w fun e Z=>e=.returned (.tuple #[])/\Frm F Z p n true/\Below F w Z:=by
 obtain ⟨a,a0,rfl,J⟩:=hv;have q0:=G.c0;have q1:=G.c1;have q2:=G.c2;have r2:=G.fr 2;have S:Hid (Frm F w p n c):=G;clear G
 by_cases O:A.length<=n
 .clear N J
  go_enter func166,ntmps166
  go_wp2
  first | go_end0 | refine bodyPost_ret (results_none rfl _ _ _) rfl ?_
  exact ⟨rfl,S.out.set2,(Below.refl _ _).setCell (p:=⟨F,2,none⟩) (Nat.le_refl _) _⟩
 .obtain ⟨b,a1,rfl,hb,H⟩:=J (fun h=>by simp [h] at O);have M:=H n (by omega);have D:=I.get n;have E:¬ A[n]?.getD 0 / 64=2:=(by omega);generalize A[n]?.getD 0=z at M D E;have Y:(bits .and .u8 z 192 != 128)=true:=(by rw [aGl z D.1 D.2];simp [E]);have a2:n<A.length:=(by omega);clear N J H E O
  go_enter func166,ntmps166
  go_wp2
  first | go_end0 | refine bodyPost_ret (results_none rfl _ _ _) rfl ?_
  exact ⟨rfl,S.out.set2,(Below.refl _ _).setCell (p:=⟨F,2,none⟩) (Nat.le_refl _) _⟩
theorem mZ (F:Nat) (v:Value) (D:List Int) (p:Int) (n:Nat) (c:Bool) (w:World) (E:Frm F w p n c) (hv:RdB F w v D) (I:Bys D) (_hm:D.length<=4194304) (hn:n<=4)
  (H:n<D.length) (O:D[n]?.getD 0 / 64=2) (M:0<=p) (J:p<16777216) :
  Calls prog 166 #[.pointer (some ⟨F,0,none⟩),v] w fun e Z=>e=.returned (.tuple #[])/\Frm F Z (p*64+D[n]?.getD 0%64) ((n:Int)+1) c/\Below F w Z:=by
 obtain ⟨a,a4,rfl,S⟩:=hv;have q0:=E.c0;have q1:=E.c1;have q2:=E.c2;have r0:=E.fr 0;have r1:=E.fr 1;have HF:Hid (Frm F w p n c):=E;clear E;obtain ⟨b,a6,rfl,hb,G⟩:=S (fun h=>by simp [h] at H);have N:=G n H;have A:=I.get n;generalize D[n]?.getD 0=z at N A O;have Y:(bits .and .u8 z 192 != 128)=false:=(by rw [aGl z A.1 A.2];simp [O]);have a0:bits .and .u8 z 63=z%64:=aHV z A.1 A.2;have a5:bits .or .i32 (p*64) (z%64)=p*64+z%64:=aMR p (z%64) M J (by omega) (by omega);have a2:(n:Int)<(D.length:Int):=(by omega);have a7:¬ b=F:=(by omega);obtain ⟨a1,a9⟩:=A;clear S G O
 go_enter func166,ntmps166
 go_wp2
 go_region
 go_wp2
 go_end0
 exact ⟨rfl,HF.out.set0.set1,(((Below.refl F w).setCell (p:=⟨F,0,none⟩) (Nat.le_refl _) _).setCell (p:=⟨F,1,none⟩) (Nat.le_refl _) _).drew⟩
theorem cO {s:List Int} {m} (h:jH m (s[0]?.getD 0)<0):hit s m=false:=by
 have:lv s m = -1:=by
  by_cases A:s.length<m
  .exact aBh A
  .exact aC0 (by omega) h
 simp [hit,this]
theorem tG {s m} (h:lv s m = -1):hit s m=false:=by simp [hit,h]
theorem bP {s} {n:Nat} (H:1<=n) (G:n<=4) (h:∀ m,1<=m->m<=4->m≠n->hit s m=false):aJ s=if hit s n then n else 0:=by
 unfold aJ
 by_cases D:n=1
 .subst D;rw [h 2 (by omega) (by omega) (by omega),h 3 (by omega) (by omega) (by omega),h 4 (by omega) (by omega) (by omega)];simp
 .rw [h 1 (by omega) (by omega) (by omega)]
  by_cases A:n=2
  .subst A;rw [h 3 (by omega) (by omega) (by omega),h 4 (by omega) (by omega) (by omega)];simp
  .rw [h 2 (by omega) (by omega) (by omega)]
   by_cases F:n=3
   .subst F;rw [h 4 (by omega) (by omega) (by omega)];simp
   .rw [h 3 (by omega) (by omega) (by omega)];have E:n=4:=(by omega);subst E;simp
theorem aFH {s} (h:∀ m,1<=m->m<=4->hit s m=false):aJ s=0:=by
 unfold aJ;rw [h 1 (by omega) (by omega),h 2 (by omega) (by omega),h 3 (by omega) (by omega),h 4 (by omega) (by omega)];simp
theorem aB6 {c:Int} (D:0<=c) (h:c<128):∀ m,1<=m->m<=4->m≠1->jH m c<0:=by
 intro m E F A;rw [lV m c (by omega) (by omega) (by omega) (by omega)];omega
theorem pE {c:Int} (h:c / 32=6):∀ m,1<=m->m<=4->m≠2->jH m c<0:=by
 intro m D E A;rw [lV m c (by omega) (by omega) (by omega) (by omega)];omega
theorem nA {c:Int} (h:c / 16=14):∀ m,1<=m->m<=4->m≠3->jH m c<0:=by
 intro m D E A;rw [lV m c (by omega) (by omega) (by omega) (by omega)];omega
theorem lF {c:Int} (h:c / 8=30):∀ m,1<=m->m<=4->m≠4->jH m c<0:=by
 intro m D E A;rw [lV m c (by omega) (by omega) (by omega) (by omega)];omega
theorem aHP {c:Int} (h:128<=c) (F:¬ c / 32=6) (G:¬ c / 16=14) (A:¬ c / 8=30):∀ m,1<=m->m<=4->jH m c<0:=by
 intro m E D;rw [lV m c (by omega) (by omega) (by omega) (by omega)];omega
def eL (s:List Int) (k:Nat):Prop:=k<s.length/\s[k]?.getD 0 / 64=2
theorem yB (x) (s:List Int) (n):jD x ((s.drop n).take (n - n))=x:=by simp [jD]
theorem lv2 {s:List Int} (A:s[0]?.getD 0 / 32=6) (D:eL s 1):lv s 2=s[0]?.getD 0%32*64+s[1]?.getD 0%64:=by
 obtain ⟨F,E⟩:=D;have h:jH 2 (s[0]?.getD 0)=s[0]?.getD 0%32:=aAm _ A;rw [kY (by omega) (by rw [h];omega),h,eP (by omega) (by omega),if_pos E,yB]
theorem lv3 {s:List Int} (A:s[0]?.getD 0 / 16=14) (E:eL s 1) (G:eL s 2):lv s 3=(s[0]?.getD 0%16*64+s[1]?.getD 0%64)*64+s[2]?.getD 0%64:=by
 obtain ⟨H,F⟩:=E;obtain ⟨I,D⟩:=G;have h:jH 3 (s[0]?.getD 0)=s[0]?.getD 0%16:=uF _ A;rw [kY (by omega) (by rw [h];omega),h,eP (by omega) (by omega),if_pos F,eP (by omega) (by omega),if_pos D,yB]
theorem lv4 {s:List Int} (A:s[0]?.getD 0 / 8=30) (E:eL s 1) (H:eL s 2) (I:eL s 3) :
  lv s 4=((s[0]?.getD 0%8*64+s[1]?.getD 0%64)*64+s[2]?.getD 0%64)*64+s[3]?.getD 0%64:=by
 obtain ⟨J,F⟩:=E;obtain ⟨M,D⟩:=H;obtain ⟨N,G⟩:=I;have h:jH 4 (s[0]?.getD 0)=s[0]?.getD 0%8:=xZ _ A;rw [kY (by omega) (by rw [h];omega),h,eP (by omega) (by omega),if_pos F,eP (by omega) (by omega),if_pos D,eP (by omega) (by omega),if_pos G,yB]
theorem aMO {s:List Int} {n:Nat} (x) (k:Nat) (A:k<n) (D:n<=s.length) (h:¬ s[k]?.getD 0 / 64=2):jD x ((s.drop k).take (n - k)) = -1:=by
 rw [eP A D,if_neg h]
theorem uD {s} {n:Nat} (k:Nat) (A:1<=k) (H:k<n) (F:∀ j,1<=j->j<k->eL s j) (h:¬ eL s k):lv s n = -1:=by
 by_cases N:s.length<n
 .exact aBh N
 .have J:¬ s[k]?.getD 0 / 64=2:=fun e=>h ⟨by omega,e⟩
  by_cases E:jH n (s[0]?.getD 0)<0
  .exact aC0 (by omega) E
  .rw [kY (by omega) (by omega)];generalize jH n (s[0]?.getD 0)=x
   have D:∀ j,1<=j->j<=k->∀ x,jD x ((s.drop j).take (n - j)) = -1:=by
    intro j
    induction hj:k - j generalizing j with
    | zero=>
      intro G M x;have:j=k:=by omega
      subst this;exact aMO x j H (by omega) J
    | succ d ih=>
      intro G M x;have I:=F j G (by omega);rw [eP (by omega) (by omega),if_pos I.2];exact ih (j+1) (by omega) (by omega) (by omega) _
   exact D 1 (Nat.le_refl _) A x
theorem yI {y:Int} (A:y<2048):cP y=2 ↔ (¬ y<128/\cC y=true):=by
 unfold cP;cases h:cC y<;>simp<;>split<;>(try split)<;>(try split)<;>omega
theorem yR {y:Int} (A:y<65536):cP y=3 ↔ (¬ y<2048/\cC y=true):=by
 unfold cP;cases h:cC y<;>simp<;>split<;>(try split)<;>(try split)<;>omega
theorem yN {y} : cP y=4 ↔ (¬ y<65536/\cC y=true):=by
 unfold cP;cases h:cC y<;>simp<;>split<;>(try split)<;>(try split)<;>omega
theorem gC {s n} {y:Int} (A:lv s n=y) (h:0<=y):hit s n=true ↔ cP y=n:=by
 simp [hit,A,h]
def fpP (s:List Int):Int:=if aJ s=0 then -1 else lv s (aJ s)
theorem fA {s} (h:aJ s=0):fpP s = -1:=by simp [fpP,h]
theorem vU {s} {n:Nat} {y:Int} (D:n≠0) (h:aJ s=n) (A:lv s n=y):fpP s=y:=by simp [fpP,h,D,A]
theorem rK (p:Int) (w):Calls prog 185 #[.int .i64 p] w fun e D=>e=.returned (.bool (aA5 p))/\w=D:=by
 by_cases A:0<=p
 .by_cases E:p<=1114111
  .have h:Hid (aA5 p=true):=by simp [Hid,aA5,A,E]
   go_enter func185,ntmps185
   go_wp2;go_ret;exact ⟨by rw [h.out];rfl,rfl⟩
  .have h:Hid (aA5 p=false):=by simp [Hid,aA5];omega
   go_enter func185,ntmps185
   go_wp2;go_ret;exact ⟨by rw [h.out];rfl,rfl⟩
 .have h:Hid (aA5 p=false):=by simp [Hid,aA5];omega
  go_enter func185,ntmps185
  go_wp2;go_ret;exact ⟨by rw [h.out];rfl,rfl⟩
theorem qI (p:Int) (w):Calls prog 173 #[.int .i64 p] w fun e D=>e=.returned (.bool (mL p))/\w=D:=by
 by_cases A:55296<=p
 .by_cases E:p<56320
  .have h:Hid (mL p=true):=by simp [Hid,mL,A,E]
   go_enter func173,ntmps173
   go_wp2;go_ret;exact ⟨by rw [h.out];rfl,rfl⟩
  .have h:Hid (mL p=false):=by simp [Hid,mL];omega
   go_enter func173,ntmps173
   go_wp2;go_ret;exact ⟨by rw [h.out];rfl,rfl⟩
 .have h:Hid (mL p=false):=by simp [Hid,mL];omega
  go_enter func173,ntmps173
  go_wp2;go_ret;exact ⟨by rw [h.out];rfl,rfl⟩
theorem xM (p:Int) (w):Calls prog 174 #[.int .i64 p] w fun e D=>e=.returned (.bool (mV p))/\w=D:=by
 by_cases A:56320<=p
 .by_cases E:p<=57343
  .have h:Hid (mV p=true):=by simp [Hid,mV,A,E]
   go_enter func174,ntmps174
   go_wp2;go_ret;exact ⟨by rw [h.out];rfl,rfl⟩
  .have h:Hid (mV p=false):=by simp [Hid,mV];omega
   go_enter func174,ntmps174
   go_wp2;go_ret;exact ⟨by rw [h.out];rfl,rfl⟩
 .have h:Hid (mV p=false):=by simp [Hid,mV];omega
  go_enter func174,ntmps174
  go_wp2;go_ret;exact ⟨by rw [h.out];rfl,rfl⟩
theorem eY (p:Int) (w):Calls prog 167 #[.int .i64 p] w fun e h=>e=.returned (.bool (cC p))/\w=h:=by
 have G:∀ (x:Bool) (w:World),(Op.unary .not (.bool x)).run prog w=.ok (.bool (!x)) w:=fun _ _=>rfl;have E:Hid (cC p=(aA5 p && !mL p && !mV p)):=aI3 p;cases A:aA5 p
 .go_enter func167,ntmps167
  go_wp2_with (go_at_call 185;refine (rK _ _).mono ?_;rintro e h ⟨rfl,rfl⟩;rw [A])
  go_ret;exact ⟨by rw [E.out,A];rfl,rfl⟩
 .cases D:mL p
  .cases F:mV p
   all_goals
    go_enter func167,ntmps167
    go_wp2_with (first
     | (go_at_call 185;refine (rK _ _).mono ?_;rintro e h ⟨rfl,rfl⟩;rw [A])
     | (go_at_call 173;refine (qI _ _).mono ?_;rintro e h ⟨rfl,rfl⟩;rw [D])
     | (go_at_call 174;refine (xM _ _).mono ?_;rintro e h ⟨rfl,rfl⟩;rw [F]))
    go_ret;exact ⟨by rw [E.out,A,D,F];rfl,rfl⟩
  .go_enter func167,ntmps167
   go_wp2_with (first
    | (go_at_call 185;refine (rK _ _).mono ?_;rintro e h ⟨rfl,rfl⟩;rw [A])
    | (go_at_call 173;refine (qI _ _).mono ?_;rintro e h ⟨rfl,rfl⟩;rw [D]))
   go_ret;exact ⟨by rw [E.out,A,D];rfl,rfl⟩
structure Tab (w:World):Prop where
 c0:w.cell? ⟨0,0,none⟩=some (.int .i32 0)
 c1:w.cell? ⟨0,1,none⟩=some (.int .i32 128)
 c2:w.cell? ⟨0,2,none⟩=some (.int .i32 2048)
 c3:w.cell? ⟨0,3,none⟩=some (.int .i32 65536)
 c4:w.cell? ⟨0,4,none⟩=some (.int .i32 2097152)
theorem Tab.K {w w'} (h:Tab w) (A:w.grownBy w' none):Tab w':=
 ⟨A.cell h.c0 (by simp),A.cell h.c1 (by simp),A.cell h.c2 (by simp),A.cell h.c3 (by simp),A.cell h.c4 (by simp)⟩
theorem Tab.pos {w} (h:Tab w):0<w.heap.size:=block_lt_of_cell? w _ h.c0
theorem Tab.below {B w E} (h:Tab w) (D:Below B w E) (A:0<B):Tab E:=
 ⟨(D.cell A).trans h.c0,(D.cell A).trans h.c1,(D.cell A).trans h.c2,(D.cell A).trans h.c3,(D.cell A).trans h.c4⟩
theorem aAx (k d q:Nat) (E:∀ m:Nat,m<256->(m &&& k=q ↔ m / d=q / d)) (A:k<256) (z:Int) (D:0<=z) (F:z<=255) :
  (bits .and .u8 z (k:Int)==(q:Int))=decide (z / (d:Int)=((q / d:Nat):Int)):=by
 obtain ⟨n,rfl⟩:=Int.eq_ofNat_of_zero_le D;have h:=E n (by omega);rw [u8_and_nat n k (by omega) A,Bool.eq_iff_iff];simp only [beq_iff_eq,decide_eq_true_eq];rw [<- Int.natCast_ediv];omega
theorem aJV (z:Int) (h:0<=z) (A:z<=255):(bits .and .u8 z 248==240)=decide (z / 8=30):=aAx 248 8 240 (by decide) (by omega) z h A
theorem aH3 (z:Int) (h:0<=z) (A:z<=255):(bits .and .u8 z 240==224)=decide (z / 16=14):=aAx 240 16 224 (by decide) (by omega) z h A
theorem aI5 (z:Int) (h:0<=z) (A:z<=255):(bits .and .u8 z 224==192)=decide (z / 32=6):=aAx 224 32 192 (by decide) (by omega) z h A
theorem zU (w:World) (p:Int):Frm w.heap.size (w.alloc (.cells #[.int .i32 p,.int .i64 1,.bool false] 227)) p 1 false:=heap_alloc_new w _
theorem iW (w:World) (o):Below w.heap.size w (w.alloc o):=(Below.refl _ _).alloc (Nat.le_refl _) _
theorem Rd.below {q B w F v G} (h:Rd q B w v G) (S:Below B w F):Rd q B F v G:=by
 obtain ⟨a,E,I,O⟩:=h;refine ⟨a,E,I,fun N=>?_⟩;obtain ⟨b,D,M,A,H⟩:=O N;exact ⟨b,D,M,A,fun j J=>(S.cell (p:=⟨b,D+j,none⟩) A).trans (H j J)⟩
theorem aNs (b a7 d6:Nat) (A:List Int) (w) (hT:Tab w) (hv:RdB w.heap.size w (.slice (some ⟨b,a7,none⟩) A.length d6) A) (D:Bys A) (hm:A.length<=4194304) (G:0<A.length) (d9:b<w.heap.size) (d2:w.cell? ⟨b,a7,none⟩=some (.int .u8 (A[0]?.getD 0))) (hc:A[0]?.getD 0 / 8=30) :
  Calls prog 153 #[.slice (some ⟨b,a7,none⟩) A.length d6] w fun e w'=>e=.returned (.tuple #[.int .i32 (fpP A),.int .i64 (aJ A)])/\Below w.heap.size w w':=by
 have J:Hid (A[0]?.getD 0 / 8=30):=hc;have I:=D.get 0;generalize S:A[0]?.getD 0=c at d2 I hc;have t4:(bits .and .u8 c 248==240)=true:=(by rw [aJV c I.1 I.2];simp;omega);have t3:(bits .and .u8 c 240==224)=false:=(by rw [aH3 c I.1 I.2];simp;omega);have t2:(bits .and .u8 c 224==192)=false:=(by rw [aI5 c I.1 I.2];simp;omega);have t1:128<=c:=(by omega);obtain ⟨i0,i5⟩:=I;have g7:Hid (A[0]?.getD 0=c):=S;clear hc S;have h6:(0:Int)<(A.length:Int):=(by omega);have h3:∀ o,(w.alloc o).cell? ⟨b,a7,none⟩=some (.int .u8 c):=fun o=>(cell?_alloc_past _ _ _ d9).trans d2
 go_enter func153,ntmps153
 go_wp2_with fail
 have f0:=zU w c;have B0:=iW w (.cells #[.int .i32 c,.int .i64 1,.bool false] 227);have v0:=hv.below B0;generalize w.alloc (.cells #[.int .i32 c,.int .i64 1,.bool false] 227)=W0 at f0 B0 v0
 by_cases g1:eL A 1
 .have i1:=D.get 1;refine (mZ w.heap.size _ A c 1 false W0 f0 v0 D hm (by omega) g1.1 g1.2 (by omega) (by omega)).mono ?_;rintro e W1 ⟨rfl,fn,E⟩;obtain ⟨x1,Y⟩:∃ x,x=c*64+A[1]?.getD 0%64:=⟨_,rfl⟩;have f1:Frm w.heap.size W1 x1 2 false:=(by rw [Y];simpa using fn);have v1:=v0.below E;have B1:=B0.trans E;have h5:0<=x1/\x1<16384:=(by omega);have g5:Hid (x1=c*64+A[1]?.getD 0%64):=Y;clear Y fn f0 v0 B0 E
  go_wp2_with fail
  by_cases g2:eL A 2
  .have h9:=D.get 2;refine (mZ w.heap.size _ A x1 2 false W1 f1 v1 D hm (by omega) g2.1 g2.2 (by omega) (by omega)).mono ?_;rintro e W2 ⟨rfl,fn,E⟩;obtain ⟨x2,Y⟩:∃ x,x=x1*64+A[2]?.getD 0%64:=⟨_,rfl⟩;have f2:Frm w.heap.size W2 x2 3 false:=(by rw [Y];simpa using fn);have N:=v1.below E;have B2:=B1.trans E;have h7:0<=x2/\x2<1048576:=(by omega);have g6:Hid (x2=x1*64+A[2]?.getD 0%64):=Y;clear Y fn f1 v1 B1 E
   go_wp2_with fail
   by_cases g3:eL A 3
   .have i7:=D.get 3;refine (mZ w.heap.size _ A x2 3 false W2 f2 N D hm (by omega) g3.1 g3.2 (by omega) (by omega)).mono ?_;rintro e W3 ⟨rfl,fn,E⟩;obtain ⟨x3,Y⟩:∃ x,x=x2*64+A[3]?.getD 0%64:=⟨_,rfl⟩;have O:Frm w.heap.size W3 x3 4 false:=(by rw [Y];simpa using fn);have v3:=N.below E;have B3:=B2.trans E;have g9:0<=x3/\x3<67108864:=(by omega);have f7:Hid (x3=x2*64+A[3]?.getD 0%64):=Y;clear Y fn f2 N B2 E;obtain ⟨y,hy⟩:∃ y,y=((A[0]?.getD 0%8*64+A[1]?.getD 0%64)*64+A[2]?.getD 0%64)*64+A[3]?.getD 0%64:=⟨_,rfl⟩;have f9:=D.get 0;have d3:=D.get 1;have c8:=D.get 2;have d0:=D.get 3;have c9:=J.out;have b6:0<=y:=(by omega);have i2:y<2097152:=(by omega);have a6:Hid (lv A 4=y):=(by unfold Hid;rw [hy];exact lv4 c9 g1 g2 g3);have HY:Hid (y=((A[0]?.getD 0%8*64+A[1]?.getD 0%64)*64+A[2]?.getD 0%64)*64+A[3]?.getD 0%64):=hy;clear hy c9 f9 d3 c8 d0;have q0:=O.c0;have q1:=O.c1;have q2:=O.c2;have b3:=hT.below B3 hT.pos;have e1:=b3.c4;have e2:=b3.c3;clear O v3 hT b3
    have f8:bits .and .i32 x3 2097151=y:=by
     rw [show bits .and .i32 x3 2097151=x3%2097152 by simpa using oZ 21 (by omega) x3 (by omega) (by omega)];have h0:=J.out;have S:=g7.out;rw [S] at h0;rw [HY.out,S];have d3:=D.get 1;have i8:=g5.out;have c8:=D.get 2;have i3:=g6.out;have d0:=D.get 3;have h8:=f7.out;omega
    go_wp2
    go_quiet (fail)
    by_cases a9:y<65536
    .have F:¬ hit A 4=true:=fun h=>((yN).1 ((gC a6.out b6).1 h)).1 a9
     have H:Hid (aJ A=0):=by
      unfold Hid;rw [bP (n:=4) (by omega) (by omega) (fun m M Z G=>cO (lF J.out m M Z G)),if_neg F]
     have HP:Hid (fpP A = -1):=fA H.out;clear F;go_wp2;go_ret2;exact ⟨by rw [HP.out,H.out];rfl,below_drewN B3 _⟩
    .cases ho:cC y
     .have F:¬ hit A 4=true:=fun h=>by
       have:=((yN).1 ((gC a6.out b6).1 h)).2;rw [ho] at this;cases this
      have H:Hid (aJ A=0):=by
       unfold Hid;rw [bP (n:=4) (by omega) (by omega) (fun m M Z G=>cO (lF J.out m M Z G)),if_neg F]
      have HP:Hid (fpP A = -1):=fA H.out;clear F
      go_wp2_with (go_at_call 167;refine (eY _ _).mono ?_;rintro e w' ⟨rfl,rfl⟩;rw [ho])
      go_ret2;exact ⟨by rw [HP.out,H.out];rfl,below_drewN B3 _⟩
     .have F:hit A 4=true:=(gC a6.out b6).2 ((yN).2 ⟨a9,ho⟩)
      have H:Hid (aJ A=4):=by
       unfold Hid;rw [bP (n:=4) (by omega) (by omega) (fun m M Z G=>cO (lF J.out m M Z G)),if_pos F]
      have HP:Hid (fpP A=y):=vU (by omega) H.out a6.out;clear F
      go_wp2_with (go_at_call 167;refine (eY _ _).mono ?_;rintro e w' ⟨rfl,rfl⟩;rw [ho])
      go_quiet (fail)
      go_wp2;go_ret2;exact ⟨by rw [HP.out,H.out];rfl,below_drewN (below_drewN B3 _) _⟩
   .refine (fC w.heap.size _ A x2 3 false W2 f2 N D hm (by omega) (by by_cases h:A.length<=3;exact .inl h;exact .inr fun e=>g3 ⟨by omega,e⟩)).mono ?_;rintro e W3 ⟨rfl,O,E⟩;have v3:=N.below E;have B3:=B2.trans E;clear f2 N B2 E;have q2:=O.c2;clear O v3;go_wp2;go_ret2;have H:aJ A=0:=(by rw [bP (n:=4) (by omega) (by omega) (fun m M Z G=>cO (lF J.out m M Z G)),tG (uD 3 (by omega) (by omega) (fun j M h2=>by rcases (show j=1\/j=2 by omega) with rfl | rfl<;>assumption) g3)];rfl);exact ⟨by rw [fA H,H];rfl,B3⟩
  .refine (fC w.heap.size _ A x1 2 false W1 f1 v1 D hm (by omega) (by by_cases h:A.length<=2;exact .inl h;exact .inr fun e=>g2 ⟨by omega,e⟩)).mono ?_;rintro e W2 ⟨rfl,f2,E⟩;have N:=v1.below E;have B2:=B1.trans E;clear f1 v1 B1 E
   go_wp2_with fail
   refine (fC w.heap.size _ A x1 2 true W2 f2 N D hm (by omega) (by by_cases h:A.length<=2;exact .inl h;exact .inr fun e=>g2 ⟨by omega,e⟩)).mono ?_;rintro e W3 ⟨rfl,O,E⟩;have v3:=N.below E;have B3:=B2.trans E;clear f2 N B2 E;have q2:=O.c2;clear O v3;go_wp2;go_ret2;have H:aJ A=0:=(by rw [bP (n:=4) (by omega) (by omega) (fun m M Z G=>cO (lF J.out m M Z G)),tG (uD 2 (by omega) (by omega) (fun j M h2=>by rcases (show j=1 by omega) with rfl;exact g1) g2)];rfl);exact ⟨by rw [fA H,H];rfl,B3⟩
 .refine (fC w.heap.size _ A c 1 false W0 f0 v0 D hm (by omega) (by by_cases h:A.length<=1;exact .inl h;exact .inr fun e=>g1 ⟨by omega,e⟩)).mono ?_;rintro e W1 ⟨rfl,f1,E⟩;have v1:=v0.below E;have B1:=B0.trans E;clear f0 v0 B0 E
  go_wp2_with fail
  refine (fC w.heap.size _ A c 1 true W1 f1 v1 D hm (by omega) (by by_cases h:A.length<=1;exact .inl h;exact .inr fun e=>g1 ⟨by omega,e⟩)).mono ?_;rintro e W2 ⟨rfl,f2,E⟩;have N:=v1.below E;have B2:=B1.trans E;clear f1 v1 B1 E
  go_wp2_with fail
  refine (fC w.heap.size _ A c 1 true W2 f2 N D hm (by omega) (by by_cases h:A.length<=1;exact .inl h;exact .inr fun e=>g1 ⟨by omega,e⟩)).mono ?_;rintro e W3 ⟨rfl,O,E⟩;have v3:=N.below E;have B3:=B2.trans E;clear f2 N B2 E;have q2:=O.c2;clear O v3;go_wp2;go_ret2;have H:aJ A=0:=(by rw [bP (n:=4) (by omega) (by omega) (fun m M Z G=>cO (lF J.out m M Z G)),tG (uD 1 (by omega) (by omega) (fun j M h2=>absurd h2 (by omega)) g1)];rfl);exact ⟨by rw [fA H,H];rfl,B3⟩
theorem aNt (b Z b9:Nat) (A:List Int) (w) (hT:Tab w) (hv:RdB w.heap.size w (.slice (some ⟨b,Z,none⟩) A.length b9) A) (D:Bys A) (hm:A.length<=4194304) (F:0<A.length) (d1:b<w.heap.size) (b6:w.cell? ⟨b,Z,none⟩=some (.int .u8 (A[0]?.getD 0))) (hc:A[0]?.getD 0 / 16=14) :
  Calls prog 153 #[.slice (some ⟨b,Z,none⟩) A.length b9] w fun e w'=>e=.returned (.tuple #[.int .i32 (fpP A),.int .i64 (aJ A)])/\Below w.heap.size w w':=by
 have I:Hid (A[0]?.getD 0 / 16=14):=hc;have H:=D.get 0;generalize M:A[0]?.getD 0=c at b6 H hc;have t4:(bits .and .u8 c 248==240)=false:=(by rw [aJV c H.1 H.2];simp;omega);have t3:(bits .and .u8 c 240==224)=true:=(by rw [aH3 c H.1 H.2];simp;omega);have t2:(bits .and .u8 c 224==192)=false:=(by rw [aI5 c H.1 H.2];simp;omega);have t1:128<=c:=(by omega);obtain ⟨g7,h3⟩:=H;have d9:Hid (A[0]?.getD 0=c):=M;clear hc M;have f5:(0:Int)<(A.length:Int):=(by omega);have f9:∀ o,(w.alloc o).cell? ⟨b,Z,none⟩=some (.int .u8 c):=fun o=>(cell?_alloc_past _ _ _ d1).trans b6
 go_enter func153,ntmps153
 go_wp2_with fail
 have f0:=zU w c;have B0:=iW w (.cells #[.int .i32 c,.int .i64 1,.bool false] 227);have v0:=hv.below B0;generalize w.alloc (.cells #[.int .i32 c,.int .i64 1,.bool false] 227)=W0 at f0 B0 v0
 by_cases g1:eL A 1
 .have g9:=D.get 1;refine (mZ w.heap.size _ A c 1 false W0 f0 v0 D hm (by omega) g1.1 g1.2 (by omega) (by omega)).mono ?_;rintro e W1 ⟨rfl,fn,G⟩;obtain ⟨x1,hx⟩:∃ x,x=c*64+A[1]?.getD 0%64:=⟨_,rfl⟩;have f1:Frm w.heap.size W1 x1 2 false:=(by rw [hx];simpa using fn);have S:=v0.below G;have B1:=B0.trans G;have f6:0<=x1/\x1<16384:=(by omega);have d5:Hid (x1=c*64+A[1]?.getD 0%64):=hx;clear hx fn f0 v0 B0 G
  go_wp2_with fail
  by_cases g2:eL A 2
  .have g3:=D.get 2;refine (mZ w.heap.size _ A x1 2 false W1 f1 S D hm (by omega) g2.1 g2.2 (by omega) (by omega)).mono ?_;rintro e W2 ⟨rfl,fn,G⟩;obtain ⟨x2,hx⟩:∃ x,x=x1*64+A[2]?.getD 0%64:=⟨_,rfl⟩;have O:Frm w.heap.size W2 x2 3 false:=(by rw [hx];simpa using fn);have v2:=S.below G;have B2:=B1.trans G;have f7:0<=x2/\x2<1048576:=(by omega);have d8:Hid (x2=x1*64+A[2]?.getD 0%64):=hx;clear hx fn f1 S B1 G;obtain ⟨y,hy⟩:∃ y,y=(A[0]?.getD 0%16*64+A[1]?.getD 0%64)*64+A[2]?.getD 0%64:=⟨_,rfl⟩;have d6:=D.get 0;have c4:=D.get 1;have b4:=D.get 2;have b5:=I.out;have b0:0<=y:=(by omega);have a7:y<65536:=(by omega);have Y:Hid (lv A 3=y):=(by unfold Hid;rw [hy];exact lv3 b5 g1 g2);have HY:Hid (y=(A[0]?.getD 0%16*64+A[1]?.getD 0%64)*64+A[2]?.getD 0%64):=hy;clear hy b5 d6 c4 b4;have q0:=O.c0;have q1:=O.c1;have q2:=O.c2;have a6:=hT.below B2 hT.pos;have e1:=a6.c3;have e2:=a6.c2;clear O v2 hT a6
   have f4:bits .and .i32 x2 65535=y:=by
    rw [show bits .and .i32 x2 65535=x2%65536 by simpa using oZ 16 (by omega) x2 (by omega) (by omega)];have h0:=I.out;have M:=d9.out;rw [M] at h0;rw [HY.out,M];have c4:=D.get 1;have g4:=d5.out;have b4:=D.get 2;have g6:=d8.out;omega
   go_wp2
   go_quiet (fail)
   by_cases a1:y<2048
   .have E:¬ hit A 3=true:=fun h=>((yR a7).1 ((gC Y.out b0).1 h)).1 a1
    have J:Hid (aJ A=0):=by
     unfold Hid;rw [bP (n:=3) (by omega) (by omega) (fun m N h4 F=>cO (nA I.out m N h4 F)),if_neg E]
    have HP:Hid (fpP A = -1):=fA J.out;clear E;go_wp2;go_ret2;exact ⟨by rw [HP.out,J.out];rfl,below_drewN B2 _⟩
   .cases ho:cC y
    .have E:¬ hit A 3=true:=fun h=>by
      have:=((yR a7).1 ((gC Y.out b0).1 h)).2;rw [ho] at this;cases this
     have J:Hid (aJ A=0):=by
      unfold Hid;rw [bP (n:=3) (by omega) (by omega) (fun m N h4 F=>cO (nA I.out m N h4 F)),if_neg E]
     have HP:Hid (fpP A = -1):=fA J.out;clear E
     go_wp2_with (go_at_call 167;refine (eY _ _).mono ?_;rintro e w' ⟨rfl,rfl⟩;rw [ho])
     go_ret2;exact ⟨by rw [HP.out,J.out];rfl,below_drewN B2 _⟩
    .have E:hit A 3=true:=(gC Y.out b0).2 ((yR a7).2 ⟨a1,ho⟩)
     have J:Hid (aJ A=3):=by
      unfold Hid;rw [bP (n:=3) (by omega) (by omega) (fun m N h4 F=>cO (nA I.out m N h4 F)),if_pos E]
     have HP:Hid (fpP A=y):=vU (by omega) J.out Y.out;clear E
     go_wp2_with (go_at_call 167;refine (eY _ _).mono ?_;rintro e w' ⟨rfl,rfl⟩;rw [ho])
     go_quiet (fail)
     go_wp2;go_ret2;exact ⟨by rw [HP.out,J.out];rfl,below_drewN (below_drewN B2 _) _⟩
  .refine (fC w.heap.size _ A x1 2 false W1 f1 S D hm (by omega) (by by_cases h:A.length<=2;exact .inl h;exact .inr fun e=>g2 ⟨by omega,e⟩)).mono ?_;rintro e W2 ⟨rfl,O,G⟩;have v2:=S.below G;have B2:=B1.trans G;clear f1 S B1 G;have q2:=O.c2;clear O v2;go_wp2;go_ret2;have J:aJ A=0:=(by rw [bP (n:=3) (by omega) (by omega) (fun m N h4 F=>cO (nA I.out m N h4 F)),tG (uD 2 (by omega) (by omega) (fun j N h2=>by rcases (show j=1 by omega) with rfl;exact g1) g2)];rfl);exact ⟨by rw [fA J,J];rfl,B2⟩
 .refine (fC w.heap.size _ A c 1 false W0 f0 v0 D hm (by omega) (by by_cases h:A.length<=1;exact .inl h;exact .inr fun e=>g1 ⟨by omega,e⟩)).mono ?_;rintro e W1 ⟨rfl,f1,G⟩;have S:=v0.below G;have B1:=B0.trans G;clear f0 v0 B0 G
  go_wp2_with fail
  refine (fC w.heap.size _ A c 1 true W1 f1 S D hm (by omega) (by by_cases h:A.length<=1;exact .inl h;exact .inr fun e=>g1 ⟨by omega,e⟩)).mono ?_;rintro e W2 ⟨rfl,O,G⟩;have v2:=S.below G;have B2:=B1.trans G;clear f1 S B1 G;have q2:=O.c2;clear O v2;go_wp2;go_ret2;have J:aJ A=0:=(by rw [bP (n:=3) (by omega) (by omega) (fun m N h4 F=>cO (nA I.out m N h4 F)),tG (uD 1 (by omega) (by omega) (fun j N h2=>absurd h2 (by omega)) g1)];rfl);exact ⟨by rw [fA J,J];rfl,B2⟩
theorem aNo (b N b2:Nat) (A:List Int) (w) (hT:Tab w) (hv:RdB w.heap.size w (.slice (some ⟨b,N,none⟩) A.length b2) A) (G:Bys A) (hm:A.length<=4194304) (F:0<A.length) (b6:b<w.heap.size) (b0:w.cell? ⟨b,N,none⟩=some (.int .u8 (A[0]?.getD 0))) (hc:A[0]?.getD 0 / 32=6) :
  Calls prog 153 #[.slice (some ⟨b,N,none⟩) A.length b2] w fun e w'=>e=.returned (.tuple #[.int .i32 (fpP A),.int .i64 (aJ A)])/\Below w.heap.size w w':=by
 have H:Hid (A[0]?.getD 0 / 32=6):=hc;have E:=G.get 0;generalize I:A[0]?.getD 0=c at b0 E hc;have t4:(bits .and .u8 c 248==240)=false:=(by rw [aJV c E.1 E.2];simp;omega);have t3:(bits .and .u8 c 240==224)=false:=(by rw [aH3 c E.1 E.2];simp;omega);have t2:(bits .and .u8 c 224==192)=true:=(by rw [aI5 c E.1 E.2];simp;omega);have t1:128<=c:=(by omega);obtain ⟨d8,f4⟩:=E;have c6:Hid (A[0]?.getD 0=c):=I;clear hc I;have d0:(0:Int)<(A.length:Int):=(by omega);have d5:∀ o,(w.alloc o).cell? ⟨b,N,none⟩=some (.int .u8 c):=fun o=>(cell?_alloc_past _ _ _ b6).trans b0
 go_enter func153,ntmps153
 go_wp2_with fail
 have f0:=zU w c;have B0:=iW w (.cells #[.int .i32 c,.int .i64 1,.bool false] 227);have v0:=hv.below B0;generalize w.alloc (.cells #[.int .i32 c,.int .i64 1,.bool false] 227)=W0 at f0 B0 v0
 by_cases g1:eL A 1
 .have f3:=G.get 1;refine (mZ w.heap.size _ A c 1 false W0 f0 v0 G hm (by omega) g1.1 g1.2 (by omega) (by omega)).mono ?_;rintro e W1 ⟨rfl,fn,bn⟩;obtain ⟨Y,hx⟩:∃ x,x=c*64+A[1]?.getD 0%64:=⟨_,rfl⟩;have f1:Frm w.heap.size W1 Y 2 false:=(by rw [hx];simpa using fn);have v1:=v0.below bn;have B1:=B0.trans bn;have d2:0<=Y/\Y<16384:=(by omega);have b9:Hid (Y=c*64+A[1]?.getD 0%64):=hx;clear hx fn f0 v0 B0 bn;obtain ⟨y,hy⟩:∃ y,y=A[0]?.getD 0%32*64+A[1]?.getD 0%64:=⟨_,rfl⟩;have c4:=G.get 0;have b3:=G.get 1;have a8:=H.out;have a2:0<=y:=(by omega);have a0:y<2048:=(by omega);have M:Hid (lv A 2=y):=(by unfold Hid;rw [hy];exact lv2 a8 g1);have HY:Hid (y=A[0]?.getD 0%32*64+A[1]?.getD 0%64):=hy;clear hy a8 c4 b3;have q0:=f1.c0;have q1:=f1.c1;have q2:=f1.c2;have Z:=hT.below B1 hT.pos;have e1:=Z.c2;have e2:=Z.c1;clear f1 v1 hT Z
  have c9:bits .and .i32 Y 2047=y:=by
   rw [show bits .and .i32 Y 2047=Y%2048 by simpa using oZ 11 (by omega) Y (by omega) (by omega)];have h0:=H.out;have I:=c6.out;rw [I] at h0;rw [HY.out,I];have b3:=G.get 1;have d6:=b9.out;omega
  go_wp2
  go_quiet (fail)
  by_cases O:y<128
  .have D:¬ hit A 2=true:=fun h=>((yI a0).1 ((gC M.out a2).1 h)).1 O
   have J:Hid (aJ A=0):=by
    unfold Hid;rw [bP (n:=2) (by omega) (by omega) (fun m S h4 F=>cO (pE H.out m S h4 F)),if_neg D]
   have HP:Hid (fpP A = -1):=fA J.out;clear D;go_wp2;go_ret2;exact ⟨by rw [HP.out,J.out];rfl,below_drewN B1 _⟩
  .cases ho:cC y
   .have D:¬ hit A 2=true:=fun h=>by
     have:=((yI a0).1 ((gC M.out a2).1 h)).2;rw [ho] at this;cases this
    have J:Hid (aJ A=0):=by
     unfold Hid;rw [bP (n:=2) (by omega) (by omega) (fun m S h4 F=>cO (pE H.out m S h4 F)),if_neg D]
    have HP:Hid (fpP A = -1):=fA J.out;clear D
    go_wp2_with (go_at_call 167;refine (eY _ _).mono ?_;rintro e w' ⟨rfl,rfl⟩;rw [ho])
    go_ret2;exact ⟨by rw [HP.out,J.out];rfl,below_drewN B1 _⟩
   .have D:hit A 2=true:=(gC M.out a2).2 ((yI a0).2 ⟨O,ho⟩)
    have J:Hid (aJ A=2):=by
     unfold Hid;rw [bP (n:=2) (by omega) (by omega) (fun m S h4 F=>cO (pE H.out m S h4 F)),if_pos D]
    have HP:Hid (fpP A=y):=vU (by omega) J.out M.out;clear D
    go_wp2_with (go_at_call 167;refine (eY _ _).mono ?_;rintro e w' ⟨rfl,rfl⟩;rw [ho])
    go_quiet (fail)
    go_wp2;go_ret2;exact ⟨by rw [HP.out,J.out];rfl,below_drewN (below_drewN B1 _) _⟩
 .refine (fC w.heap.size _ A c 1 false W0 f0 v0 G hm (by omega) (by by_cases h:A.length<=1;exact .inl h;exact .inr fun e=>g1 ⟨by omega,e⟩)).mono ?_;rintro e W1 ⟨rfl,f1,bn⟩;have v1:=v0.below bn;have B1:=B0.trans bn;clear f0 v0 B0 bn;have q2:=f1.c2;clear f1 v1;go_wp2;go_ret2;have J:aJ A=0:=(by rw [bP (n:=2) (by omega) (by omega) (fun m S h4 F=>cO (pE H.out m S h4 F)),tG (uD 1 (by omega) (by omega) (fun j S h2=>absurd h2 (by omega)) g1)];rfl);exact ⟨by rw [fA J,J];rfl,B1⟩
theorem aMM (b E O:Nat) (A:List Int) (w) (hT:Tab w) (_hv:RdB w.heap.size w (.slice (some ⟨b,E,none⟩) A.length O) A) (Z:Bys A) (hm:A.length<=4194304) (M:0<A.length) (Y:b<w.heap.size) (N:w.cell? ⟨b,E,none⟩=some (.int .u8 (A[0]?.getD 0))) (G:A[0]?.getD 0<128) :
  Calls prog 153 #[.slice (some ⟨b,E,none⟩) A.length O] w fun e w'=>e=.returned (.tuple #[.int .i32 (fpP A),.int .i64 (aJ A)])/\Below w.heap.size w w':=by
 have h:=Z.get 0
 have J:lv A 1=A[0]?.getD 0:=by
  rw [kY (by omega) (by rw [lZ _ G];omega),lZ _ G];rfl
 have H:cC (A[0]?.getD 0)=true:=(by simp [cC];omega);have D:cP (A[0]?.getD 0)=1:=(by unfold cP;rw [if_pos H,if_pos G]);have F:hit A 1=true:=(gC J h.1).2 D
 have HZ:Hid (aJ A=1):=by
  unfold Hid;rw [bP (n:=1) (by omega) (by omega) (fun m h1 h4 M=>cO (aB6 h.1 G m h1 h4 M)),if_pos F]
 have HP:Hid (fpP A=A[0]?.getD 0):=vU (by omega) HZ.out J;clear J D F;generalize A[0]?.getD 0=c at N h G H HP;have t4:(bits .and .u8 c 248==240)=false:=(by rw [aJV c h.1 h.2];simp;omega);have t3:(bits .and .u8 c 240==224)=false:=(by rw [aH3 c h.1 h.2];simp;omega);have t2:(bits .and .u8 c 224==192)=false:=(by rw [aI5 c h.1 h.2];simp;omega);have t1:c<128:=G;obtain ⟨a8,b0⟩:=h;have a2:(0:Int)<(A.length:Int):=(by omega);have a7:∀ o,(w.alloc o).cell? ⟨b,E,none⟩=some (.int .u8 c):=fun o=>(cell?_alloc_past _ _ _ Y).trans N;have S:=zU w c;have B0:=iW w (.cells #[.int .i32 c,.int .i64 1,.bool false] 227);have q0:=S.c0;have q1:=S.c1;have q2:=S.c2;have I:=hT.below B0 hT.pos;have e1:=I.c1;have e2:=I.c0;clear S I hT G
 have a1:bits .and .i32 c 127=c:=by
  rw [show bits .and .i32 c 127=c%128 by simpa using oZ 7 (by omega) c (by omega) (by omega)];omega
 go_enter func153,ntmps153
 go_wp2_with fail
 go_quiet (fail)
 go_wp2_with (go_at_call 167;refine (eY _ _).mono ?_;rintro e w' ⟨rfl,rfl⟩;rw [H])
 go_quiet (fail)
 go_wp2;go_ret2;exact ⟨by rw [HP.out,HZ.out];rfl,below_drewN (below_drewN B0 _) _⟩
theorem aMu (b D I:Nat) (A:List Int) (w) (_hT:Tab w) (_hv:RdB w.heap.size w (.slice (some ⟨b,D,none⟩) A.length I) A) (N:Bys A) (_hm:A.length<=4194304) (Z:0<A.length) (J:b<w.heap.size) (H:w.cell? ⟨b,D,none⟩=some (.int .u8 (A[0]?.getD 0))) (M:(128:Int)<=A[0]?.getD 0) (F:¬ A[0]?.getD 0 / 32=6) (G:¬ A[0]?.getD 0 / 16=14) (E:¬ A[0]?.getD 0 / 8=30) :
  Calls prog 153 #[.slice (some ⟨b,D,none⟩) A.length I] w fun e w'=>e=.returned (.tuple #[.int .i32 (fpP A),.int .i64 (aJ A)])/\Below w.heap.size w w':=by
 have h:=N.get 0;have S:Hid (aJ A=0):=aFH (fun m h1 h4=>cO (aHP M F G E m h1 h4));have HP:Hid (fpP A = -1):=fA S.out;generalize A[0]?.getD 0=c at H h M F G E;have t4:(bits .and .u8 c 248==240)=false:=(by rw [aJV c h.1 h.2];simp;omega);have t3:(bits .and .u8 c 240==224)=false:=(by rw [aH3 c h.1 h.2];simp;omega);have t2:(bits .and .u8 c 224==192)=false:=(by rw [aI5 c h.1 h.2];simp;omega);have t1:128<=c:=(by omega);obtain ⟨a2,a4⟩:=h;clear M F G E;have O:(0:Int)<(A.length:Int):=(by omega);have Y:∀ o,(w.alloc o).cell? ⟨b,D,none⟩=some (.int .u8 c):=fun o=>(cell?_alloc_past _ _ _ J).trans H;have B0:=iW w (.cells #[.int .i32 c,.int .i64 1,.bool true] 227)
 go_enter func153,ntmps153
 go_wp2;go_ret2;exact ⟨by rw [HP.out,S.out];rfl,B0⟩
theorem rJ (v A w) (J:Tab w) (I:RdB w.heap.size w v A) (G:Bys A) (O:A.length<=4194304) (D:0<A.length) :
  Calls prog 153 #[v] w fun e w'=>e=.returned (.tuple #[.int .i32 (fpP A),.int .i64 (aJ A)])/\Below w.heap.size w w':=by
 obtain ⟨a,E,M,Y⟩:=I;obtain ⟨b,F,ha,N,hc⟩:=Y (fun h=>by simp [h] at D);subst ha;subst M;have I:RdB w.heap.size w (.slice (some ⟨b,F,none⟩) A.length E) A:=⟨_,E,rfl,Y⟩;have H:w.cell? ⟨b,F,none⟩=some (.int .u8 (A[0]?.getD 0)):=by simpa using hc 0 D
 by_cases c1:A[0]?.getD 0<128
 .exact aMM b F E A w J I G O D N H c1
 .by_cases Z:A[0]?.getD 0 / 32=6
  .exact aNo b F E A w J I G O D N H Z
  .by_cases c3:A[0]?.getD 0 / 16=14
   .exact aNt b F E A w J I G O D N H c3
   .by_cases S:A[0]?.getD 0 / 8=30
    .exact aNs b F E A w J I G O D N H S
    .exact aMu b F E A w J I G O D N H (by omega) Z c3 S
def tI:Nat->List Int->Nat->List (Int × Int)
 | 0,_,_=>[]
 | f+1,s,k=>if s=[] then [] else if aJ s=0 then [((k:Int),-1)] else ((k:Int),lv s (aJ s))::tI f (s.drop (aJ s)) (k+aJ s)
def lB (zs:List Int):List (Int × Int):=tI zs.length zs 0
theorem aGK (f k):tI f [] k=[]:=by cases f<;>simp [tI]
theorem aFj {f:Nat} {k} {s:List Int} (A:s≠[]) (h:aJ s≠0):tI (f+1) s k=((k:Int),lv s (aJ s))::tI f (s.drop (aJ s)) (k+aJ s):=by simp [tI,A,h]
theorem aCU {f:Nat} {k} {s:List Int} (A:s≠[]) (h:aJ s=0):tI (f+1) s k=[((k:Int),-1)]:=by simp [tI,A,h]
theorem aG6 {s n} (h:hit s n=true):0<=lv s n:=by
 simp only [hit,Bool.and_eq_true,decide_eq_true_eq] at h;exact h.1
theorem aJz {s} (h:aJ s≠0):0<=lv s (aJ s):=by
 have A:hit s (aJ s)=true:=by
  unfold aJ at h ⊢
  split
  .assumption
  .split
   .assumption
   .split
    .assumption
    .split
     .assumption
     .simp_all
 exact aG6 A
theorem aLQ {s} (h:aJ s≠0):0<=fpP s:=by unfold fpP;rw [if_neg h];exact aJz h
def tY (zs:List Int) (pre:List (Int × Int)) (k:Nat):Prop:=k<=zs.length/\pre.length<=k/\∃ f,zs.length - k<=f/\pre++tI f (zs.drop k) k=lB zs
theorem tY.start (h):tY h [] 0:=⟨Nat.zero_le _,Nat.le_refl _,h.length,by omega,by simp [lB]⟩
theorem tY.step {A D k} (h:tY A D k) (J:k<A.length) (F:aJ (A.drop k)≠0) :
  tY A (D++[((k:Int),fpP (A.drop k))]) (k+aJ (A.drop k)):=by
 obtain ⟨N,M,f,O,G⟩:=h;have H:A.drop k≠[]:=(by rw [ne_eq,drop_eq_nil_iff];omega);have I:=wM (A.drop k);rw [length_drop] at I;obtain ⟨E,rfl⟩:∃ E,f=E+1:=⟨f - 1,by omega⟩;rw [aFj H F,drop_drop] at G;refine ⟨by omega,by simp only [length_append,length_singleton];omega,E,by omega,?_⟩;rw [<- G];simp [fpP,F]
theorem tY.bad {A D k} (h:tY A D k) (I:k<A.length) (E:aJ (A.drop k)=0):D++[((k:Int),fpP (A.drop k))]=lB A:=by
 obtain ⟨M,J,f,N,G⟩:=h;have H:A.drop k≠[]:=(by rw [ne_eq,drop_eq_nil_iff];omega);obtain ⟨F,rfl⟩:∃ F,f=F+1:=⟨f - 1,by omega⟩;rw [aCU H E] at G;rw [fA E];exact G
theorem tY.done {D A k} (h:tY D A k) (F:¬ k<D.length):A=lB D:=by
 obtain ⟨H,G,f,I,E⟩:=h;rw [drop_eq_nil_of_le (by omega),aGK] at E;simpa using E
theorem tY.prefix {D A k} (h:tY D A k):A <+: lB D:=by
 obtain ⟨G,F,f,H,E⟩:=h;exact ⟨_,E⟩
theorem aJq (f:Nat):∀ (s:List Int) (k:Nat),(∀ x∈tI f s k,x.2≠-1)->err f s k=none/\(tI f s k).map (·.2)=pts f s:=by
 induction f with
 | zero=>intro s k _;simp [tI,err,pts]
 | succ f ih=>
   intro s k h
   by_cases A:s=[]
   .simp [tI,err,pts,A]
   .by_cases D:aJ s=0
    .rw [aCU A D] at h;exact absurd rfl (h _ (mem_singleton.2 rfl))
    .rw [aFj A D] at h ⊢;have E:=ih (s.drop (aJ s)) (k+aJ s) (fun x F=>h x (mem_cons_of_mem _ F));rw [aAE A D,aDW A D];exact ⟨E.1,by simp [E.2]⟩
theorem aHU (f):∀ (s:List Int) (k:Nat) (q:List (Int × Int)) (x:Int × Int),q++[x] <+: tI f s k->x.2 = -1->∃ m:Nat,err f s k=some m/\x.1=(m:Int):=by
 induction f with
 | zero=>intro s k q x h _;simp [tI] at h
 | succ f ih=>
   intro s k q x h F
   by_cases E:s=[]
   .rw [E,aGK] at h;simp at h
   .by_cases D:aJ s=0
    .rw [aCU E D] at h;refine ⟨k,aC6 E D,?_⟩;cases q with
     | nil=>obtain ⟨t,A⟩:=h;simp at A;rw [A.1]
     | cons y q=>obtain ⟨t,A⟩:=h;simp at A
    .rw [aFj E D] at h;rw [aAE E D];cases q with
     | nil=>
       obtain ⟨t,A⟩:=h;simp at A;have:=aJz D;rw [A.1] at F;simp at F;omega
     | cons y q=>
       refine ih (s.drop (aJ s)) (k+aJ s) q x ?_ F;rw [cons_append,cons_prefix_cons] at h;exact h.2
theorem aCq {A:List Int} (h:∀ x∈lB A,x.2≠-1):eU A=((lB A).map (·.2),0,0):=by
 have D:=aJq A.length A 0 h;rw [zQ D.1];unfold lB;rw [D.2]
theorem aCb {A} {q:List (Int × Int)} {x:Int × Int} (h:q++[x] <+: lB A) (E:x.2 = -1):eU A=([],2,x.1):=by
 obtain ⟨m,F,D⟩:=aHU A.length A 0 q x h E;rw [aAW F,D]
end Go.Proofs.YtckcaefnokeodaaGreatDoor
