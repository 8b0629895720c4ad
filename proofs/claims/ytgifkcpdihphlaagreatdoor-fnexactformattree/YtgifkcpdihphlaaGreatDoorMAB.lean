import Derived.Test.YtgifkcpdihphlaaGreatDoorMAA
set_option maxHeartbeats 16000000
set_option maxRecDepth 100000
namespace Go.Proofs.YtgifkcpdihphlaaGreatDoor
open Tryz
open Go.RowKit
def jK (c:Int):Int:=if aK c then c - 48 else if 97<=c/\c<=102 then c - 97+10 else if 65<=c/\c<=70 then c - 65+10 else -1
def eK (c:Int):Bool:=decide (0<=jK c)
def isE (c:Int):Bool:=decide (c=101\/c=69)
def aAr (c:Int):Bool:=decide (c=43\/c=45)
def aW (s:List Int):Bool:=s.all aK
def gQ:List Int->Bool
 | []=>false
 | c::_=>aK c
def yY:List Int->Bool
 | []=>false
 | c::_=>eK c
def eB:List Int->List Int
 | []=>[]
 | c::r=>if aAr c then r else c::r
def cN (s:List Int):Bool:=
 let w:=s.takeWhile (· != 46)
 let p:=(s.dropWhile (· != 46)).tail
 if !aW w || !aW p then false
 else if w=[] then decide (w.length<s.length)&&decide (p≠[])
 else decide (w=[48])||decide (w[0]?.getD 0≠48)
def oK (s:List Int):Bool:=decide (eB s≠[])&&aW (eB s)
def oO:List Int:=[73,110,102,105,110,105,116,121]
def nan:List Int:=[78,97,78]
def isX (c:Int):Bool:=decide (c=120\/c=88)
def dM (s:List Int):Bool:=
 if s=oO\/s=nan then true
 else if 2<s.length/\s[0]?.getD 0=48/\isX (s[1]?.getD 0)=true then (s.drop 2).all eK
 else if s.any isE then cN (s.takeWhile (fun c=>!isE c))&&oK (s.dropWhile (fun c=>!isE c)).tail
 else cN s
def oC (s:List Int):Bool:=dM (eB s)
def dK (s:List Int):Bool × List Int:=
 let a:Bool × List Int:=match s with
  | []=>(false,[])
  | c::r=>if c=48 then (true,r) else (aK c,(c::r).dropWhile aK)
 match a.2 with
 | []=>(a.1,[])
 | c::r=>if c=46 then (a.1||gQ r,r.dropWhile aK) else (a.1,c::r)
def iN (a:Bool × List Int):Bool × List Int:=
 if !a.1 then (false,a.2)
 else match a.2 with
  | []=>(true,[])
  | c::r=>if isE c then (gQ (eB r),(eB r).dropWhile aK) else (true,c::r)
def gL (s:List Int):Bool × List Int:=iN (dK s)
def kV (s:List Int):Bool × List Int:=
 if oO <+: s then (true,s.drop 8)
 else if nan <+: s then (true,s.drop 3)
 else match s with
  | c::x::r=>if c=48/\isX x=true then (yY r,r.dropWhile eK) else gL s
  | _=>gL s
def dI (s:List Int):Bool:=(kV (eB s)).1&&decide ((kV (eB s)).2=[])
theorem cH (p:Int->Bool) (s:List Int):s.dropWhile p=[] ↔ s.all p=true:=by
 induction s with
 | nil=>simp
 | cons c s ih=>
   rw [List.dropWhile_cons]
   by_cases h:p c=true
   ·simp [h,ih]
   ·simp [h]
theorem uU (s:List Int) (h:aW s=true) (j:s≠[]):gQ s=true:=by
 cases s with
 | nil=>exact absurd rfl j
 | cons c r=>simp [aW] at h;exact h.1
theorem aHv {p:Int->Bool} {s:List Int} {c:Int} {r:List Int} (h:s.dropWhile p=c::r):p c=false/\c∈s:=by
 induction s with
 | nil=>simp at h
 | cons x s ih=>
   rw [List.dropWhile_cons] at h
   by_cases j:p x=true
   ·rw [if_pos j] at h;exact ⟨(ih h).1,List.mem_cons_of_mem _ (ih h).2⟩
   ·rw [if_neg j] at h;cases h;exact ⟨by simpa using j,List.mem_cons_self⟩
theorem aGo {p:Int->Bool} {s:List Int} (h:∀ c∈s,p c=true):s.takeWhile p=s/\s.dropWhile p=[]:=by
 have:s.dropWhile p=[]:=(cH p s).2 (by simpa using h);exact ⟨by have:=List.takeWhile_append_dropWhile (p:=p) (l:=s);simp_all,this⟩
theorem qF {p:Int->Bool} {a b:List Int} {c:Int} (h:∀ x∈a,p x=true) (u:p c=false):(a++c::b).takeWhile p=a/\(a++c::b).dropWhile p=c::b:=by
 induction a with
 | nil=>simp [u]
 | cons x a ih=>
   have j:=h x List.mem_cons_self;have:=ih (fun y A=>h y (List.mem_cons_of_mem _ A));simp [j,this.1,this.2]
theorem oY (p:Int->Bool) (s:List Int):(∀ c∈s,p c=true)\/∃ a c b,s=a++c::b/\(∀ x∈a,p x=true)/\p c=false:=by
 induction s with
 | nil=>left;simp
 | cons x s ih=>
   by_cases A:p x=true
   ·rcases ih with h | ⟨a,c,b,rfl,D,E⟩
    ·left;intro c j;rcases List.mem_cons.1 j with rfl | j
     ·exact A
     ·exact h c j
    ·right;refine ⟨x::a,c,b,rfl,fun y u=>?_,E⟩;rcases List.mem_cons.1 u with rfl | u
     ·exact A
     ·exact D y u
   ·right;exact ⟨[],x,s,rfl,by simp,by simpa using A⟩
theorem yU (s:List Int):cN s=((dK s).1&&decide ((dK s).2=[])):=by
 rcases oY (fun c=>c != 46) s with h | ⟨w,c,p,rfl,J,O⟩
 ·have H:=aGo h;simp only [cN,H.1,H.2,List.tail_nil];cases s with
  | nil=>simp [dK,aW]
  | cons c r=>
    by_cases u:c=48
    ·subst u;cases r with
     | nil=>simp [dK,aW,aK]
     | cons x r=>
       have G:x≠46:=(by have:=h x (by simp);simpa using this);simp [dK,G]
    ·have X:∀ x,(c::r).dropWhile aK=x->(match x with | []=>(aK c,([]:List Int)) | y::t=>if y=46 then (aK c||gQ t,t.dropWhile aK) else (aK c,y::t))=(aK c,x):=by
      intro x G;cases x with
      | nil=>rfl
      | cons y t=>
        have:=h y (aHv G).2;have L:y≠46:=(by simpa using this);simp [L]
     have A:dK (c::r)=(aK c,(c::r).dropWhile aK):=by
      simp only [dK,if_neg u];exact X _ rfl
     rw [A]
     by_cases j:aW (c::r)=true
     ·have:(c::r).dropWhile aK=[]:=(cH _ _).2 j;have E:aK c=true:=uU _ j (by simp);rw [j,this,E];simp [u,aW]
     ·have:(c::r).dropWhile aK≠[]:=fun e=>j ((cH _ _).1 e);simp only [j,this];simp
 ·have N:c=46:=(by simpa using O);subst N;have H:=qF (b:=p) J O;simp only [cN,H.1,H.2,List.tail_cons];cases w with
  | nil=>
    have A:dK ([]++46::p)=(gQ p,p.dropWhile aK):=(by simp [dK,show aK 46=false by decide]);rw [A,show aW []=true from rfl]
    by_cases j:aW p=true
    ·rw [(cH _ _).2 j,j]
     by_cases D:p=[]
     ·simp [D,gQ]
     ·simp [D,uU _ j D]
    ·have:p.dropWhile aK≠[]:=fun e=>j ((cH _ _).1 e);simp [j,this]
  | cons c r=>
    by_cases u:c=48
    ·subst u;cases r with
     | nil=>
       have A:dK ([48]++46::p)=(true,p.dropWhile aK):=(by simp [dK]);rw [A,show aW [48]=true from by decide]
       by_cases j:aW p=true
       ·rw [(cH _ _).2 j,j];simp
       ·have:p.dropWhile aK≠[]:=fun e=>j ((cH _ _).1 e);simp [j,this]
     | cons x r=>
       have G:x≠46:=(by have:=J x (by simp);simpa using this);simp [dK,G]
    ·by_cases j:aW (c::r)=true
     ·have M:=(qF (p:=aK) (a:=c::r) (c:=46) (b:=p) (by simpa [aW] using j) (by decide)).2;have E:aK c=true:=uU _ j (by simp)
      have A:dK ((c::r)++46::p)=(true,p.dropWhile aK):=by
       simp only [dK,List.cons_append,if_neg u];rw [show c::(r++46::p)=(c::r)++46::p from rfl,M];simp [E]
      rw [A]
      by_cases D:aW p=true
      ·have:=(cH _ _).2 D;simp [j,D,this,u]
      ·have:p.dropWhile aK≠[]:=fun e=>D ((cH _ _).1 e);simp [j,D,this]
     ·rcases oY aK (c::r) with h | ⟨a,y,b,S,U,Y⟩
      ·exact absurd (by simpa [aW] using h) j
      ·have M:=(qF (p:=aK) (a:=a) (c:=y) (b:=b++46::p) U Y).2;have L:y≠46:=by have:=J y (by rw [S];simp);simpa using this
       have A:dK ((c::r)++46::p)=(aK c,y::(b++46::p)):=by
        simp only [dK,List.cons_append,if_neg u];rw [show c::(r++46::p)=(c::r)++46::p from rfl,S,List.append_assoc,List.cons_append,M];simp [L]
       rw [A];simp [j]
theorem aDS (c:Int) (r:List Int) (j:aK c=false) (y:c≠46):cN (c::r)=false:=by
 have h:c≠48:=fun e=>by rw [e] at j;exact absurd j (by decide)
 have u:dK (c::r)=(false,c::r):=(by simp [dK,h,j,y]);rw [yU,u];rfl
theorem aFE {e:Int} (j:aK e=false) (s x:List Int):(s++e::x).dropWhile aK=s.dropWhile aK++e::x:=by
 induction s with
 | nil=>simp [j]
 | cons c s ih=>
   by_cases h:aK c=true
   ·simp [h,ih]
   ·simp [h]
theorem aLN {e:Int} (h:aK e=false) (s x:List Int):gQ (s++e::x)=gQ s:=by
 cases s with
 | nil=>simp [gQ,h]
 | cons c s=>rfl
theorem aH3 {e:Int} (G:isE e=true) (m x:List Int):dK (m++e::x)=((dK m).1,(dK m).2++e::x):=by
 have D:e=101\/e=69:=(by simpa [isE] using G);have u:aK e=false:=(by rcases D with rfl | rfl<;>decide);have h:e≠46:=(by omega);have A:e≠48:=(by omega);cases m with
 | nil=>simp [dK,A,u,h]
 | cons c r=>
   by_cases E:c=48
   ·subst E;cases r with
    | nil=>simp [dK,h]
    | cons y t=>
      by_cases j:y=46
      ·simp [dK,j,aFE u]
      ·simp [dK,j]
   ·have H:=aFE u (c::r) x;simp only [dK,List.cons_append,if_neg E];rw [show c::(r++e::x)=(c::r)++e::x from rfl,H];cases (c::r).dropWhile aK with
    | nil=>simp [h]
    | cons y t=>
      by_cases j:y=46
      ·simp [j,aFE u,aLN u]
      ·simp [j]
theorem aDP (s:List Int):∀ y∈(dK s).2,y∈s:=by
 have D:∀ (t:List Int),∀ y∈t.dropWhile aK,y∈t:=fun t y A=>(List.dropWhile_sublist aK).subset A;cases s with
 | nil=>simp [dK]
 | cons c r=>
   by_cases H:c=48
   ·subst H;cases r with
    | nil=>simp [dK]
    | cons y t=>
      intro z j
      by_cases A:y=46
      ·simp only [dK,A,if_true] at j;have:=D t z j;simp [this]
      ·simp only [dK,if_neg A,if_true] at j;exact List.mem_cons_of_mem _ j
   ·intro z j;simp only [dK,if_neg H] at j;cases h:(c::r).dropWhile aK with
    | nil=>rw [h] at j;simp at j
    | cons y t=>
      rw [h] at j;have u:∀ G∈y::t,G∈c::r:=fun G E=>D _ _ (by rw [h];exact E)
      by_cases A:y=46
      ·simp only [A,if_true] at j;exact u z (List.mem_cons_of_mem _ (D t z j))
      ·simp only [if_neg A] at j;exact u z j
theorem aLZ (x:List Int):oK x=(gQ (eB x)&&decide ((eB x).dropWhile aK=[])):=by
 unfold oK
 by_cases h:aW (eB x)=true
 ·rw [(cH _ _).2 h,h]
  by_cases j:eB x=[]
  ·simp [j,gQ]
  ·simp [j,uU _ h j]
 ·have:(eB x).dropWhile aK≠[]:=fun e=>h ((cH _ _).1 e);simp [h,this]
theorem aLD:∀ a:Bool × List Int,(∀ y∈a.2,isE y=false)->(a.1&&decide (a.2=[]))=((iN a).1&&decide ((iN a).2=[]))
 | (false,r),_=>by simp [iN]
 | (true,[]),_=>by simp [iN]
 | (true,c::r),h=>by simp [iN,h c (by simp)]
theorem aKJ {e:Int} (j:isE e=true):∀ (a:Bool × List Int),(∀ y∈a.2,isE y=false)->∀ x:List Int,(a.1&&decide (a.2=[])&&(gQ (eB x)&&decide ((eB x).dropWhile aK=[])))=((iN (a.1,a.2++e::x)).1&&decide ((iN (a.1,a.2++e::x)).2=[]))
 | (false,r),_,x=>by simp [iN]
 | (true,[]),_,x=>by simp [iN,j]
 | (true,c::r),h,x=>by simp [iN,h c (by simp)]
theorem aLW (s:List Int):(if s.any isE then cN (s.takeWhile (fun c=>!isE c))&&oK (s.dropWhile (fun c=>!isE c)).tail else cN s)=((gL s).1&&decide ((gL s).2=[])):=by
 rcases oY (fun c=>!isE c) s with h | ⟨m,e,x,rfl,D,E⟩
 ·have j:s.any isE=false:=(by simpa using h);rw [j,if_neg (by simp),yU];exact aLD _ (fun y A=>by simpa using h y (aDP s y A))
 ·have u:isE e=true:=(by simpa using E);have j:(m++e::x).any isE=true:=(by simp [u]);have G:=qF (p:=fun c=>!isE c) (a:=m) (c:=e) (b:=x) D E;rw [j,if_pos rfl,G.1,G.2,List.tail_cons,yU,aLZ];rw [gL,aH3 u];exact aKJ u _ (fun y A=>by simpa using D y (aDP m y A)) x
theorem aGU (c:Int) (r:List Int) (h:aK c=false) (u:c≠46) (D:isE c=false) (A:c::r≠oO) (E:c::r≠nan):dM (c::r)=false:=by
 have j:c≠48:=fun e=>by rw [e] at h;exact absurd h (by decide)
 unfold dM;rw [if_neg (by simp [A,E]),if_neg (by simp [j])];have y:(c::r).takeWhile (fun c=>!isE c)=c::r.takeWhile (fun c=>!isE c):=(by simp [D]);rw [y,aDS c _ h u,aDS c _ h u];simp
theorem aLO (s:List Int):dM s=((kV s).1&&decide ((kV s).2=[])):=by
 by_cases A:oO <+: s
 ·obtain ⟨t,rfl⟩:=A
  have u:kV (oO++t)=(true,t):=by
   unfold kV;rw [if_pos (List.prefix_append _ _)];rfl
  rw [u]
  by_cases y:t=[]
  ·subst y;simp [dM]
  ·rw [show oO++t=73::([110,102,105,110,105,116,121]++t) from rfl,aGU 73 _ (by decide) (by decide) (by decide) (by simp [oO,y]) (by simp [nan])];simp [y]
 ·by_cases E:nan <+: s
  ·obtain ⟨t,rfl⟩:=E
   have u:kV (nan++t)=(true,t):=by
    unfold kV;rw [if_neg A,if_pos (List.prefix_append _ _)];rfl
   rw [u]
   by_cases y:t=[]
   ·subst y;simp [dM]
   ·rw [show nan++t=78::([97,78]++t) from rfl,aGU 78 _ (by decide) (by decide) (by decide) (by simp [oO]) (by simp [nan,y])];simp [y]
  ·have L:¬ (s=oO\/s=nan):=by
    rintro (rfl | rfl)
    ·exact A (List.prefix_refl _)
    ·exact E (List.prefix_refl _)
   by_cases j:∃ x r,s=48::x::r/\isX x=true
   ·obtain ⟨x,r,rfl,j⟩:=j
    have u:kV (48::x::r)=(yY r,r.dropWhile eK):=by
     unfold kV;rw [if_neg A,if_neg E];simp [j]
    rw [u];unfold dM;rw [if_neg L];have H:x=120\/x=88:=(by simpa [isX] using j);cases r with
    | nil=>
      rw [if_neg (by simp),yU];clear A E L u j;rcases H with rfl | rfl<;>decide
    | cons h r=>
      rw [if_pos (by simp [j])]
      by_cases D:(h::r).all eK=true
      ·rw [(cH _ _).2 D];simp only [List.drop_succ_cons,List.drop_zero,D];simp at D;simp [yY,D.1]
      ·have:(h::r).dropWhile eK≠[]:=fun e=>D ((cH _ _).1 e);simp only [List.drop_succ_cons,List.drop_zero,D,this];simp
   ·have u:kV s=gL s:=by
     unfold kV;rw [if_neg A,if_neg E]
     match s,j with
     | [],_=>rfl
     | [c],_=>rfl
     | c::x::r,j=>
       simp only;rw [if_neg (fun h=>j ⟨x,r,by rw [h.1],h.2⟩)]
    rw [u,<- aLW];unfold dM;rw [if_neg L,if_neg];rintro ⟨M,G,J⟩
    match s,j,M,G,J with
    | c::x::r,j,M,G,J=>exact j ⟨x,r,by simp at G;rw [G],by simpa using J⟩
theorem aMB (s:List Int):oC s=dI s:=aLO _
def Frm (F:Nat) (w:World) (p n:Int) (c:Bool):Prop:=w.heap[F]?=some (.cells #[.int .i32 p,.int .i64 n,.bool c] 234 (0,0))
theorem Frm.c0 {F:Nat} {w:World} {p n:Int} {c:Bool} (h:Frm F w p n c):w.cell? ⟨F,0,none⟩=some (.int .i32 p):=by rw [cell_of_row w F 0 _ _ _ h];rfl
theorem Frm.c1 {F:Nat} {w:World} {p n:Int} {c:Bool} (h:Frm F w p n c):w.cell? ⟨F,1,none⟩=some (.int .i64 n):=by rw [cell_of_row w F 1 _ _ _ h];rfl
theorem Frm.c2 {F:Nat} {w:World} {p n:Int} {c:Bool} (h:Frm F w p n c):w.cell? ⟨F,2,none⟩=some (.bool c):=by rw [cell_of_row w F 2 _ _ _ h];rfl
theorem Frm.fr {F:Nat} {w:World} {p n:Int} {c:Bool} (h:Frm F w p n c) (j:Nat):w.frozen? ⟨F,j,none⟩=false:=frozen_of_row w F j _ _ h
theorem Frm.set0 {F:Nat} {w:World} {p n q:Int} {c:Bool} (h:Frm F w p n c):Frm F (w.setCell ⟨F,0,none⟩ (.int .i32 q)) q n c:=heap_setCell_same w F 0 _ _ _ h
theorem Frm.set1 {F:Nat} {w:World} {p n q:Int} {c:Bool} (h:Frm F w p n c):Frm F (w.setCell ⟨F,1,none⟩ (.int .i64 q)) p q c:=heap_setCell_same w F 1 _ _ _ h
theorem Frm.set2 {F:Nat} {w:World} {p n:Int} {c b:Bool} (h:Frm F w p n c):Frm F (w.setCell ⟨F,2,none⟩ (.bool b)) p n b:=heap_setCell_same w F 2 _ _ _ h
theorem aGB (z:Int) (D:0<=z) (E:z<=255):(bits .and .u8 z 192 != 128) = !decide (z / 64=2):=by
 obtain ⟨n,rfl⟩:=Int.eq_ofNat_of_zero_le D;have y:∀ m:Nat,m<256->(m &&& 192=128 ↔ m / 64=2):=(by decide);have h:=y n (by omega);have e:bits .and .u8 (n:Int) 192=((n &&& 192:Nat):Int):=u8_and_nat n 192 (by omega) (by omega);rw [e]
 by_cases j:n / 64=2
 ·rw [h.2 j];simp;omega
 ·have:¬ n &&& 192=128:=fun x=>j (h.1 x);have A:¬ (n:Int) / 64=2:=(by omega);have u:¬ ((n &&& 192:Nat):Int)=128:=(by omega);simp [A,u]
theorem aJJ (z:Int) (j:0<=z) (u:z<=255):bits .and .u8 z 63=z%64:=by
 obtain ⟨n,rfl⟩:=Int.eq_ofNat_of_zero_le j;have e:bits .and .u8 (n:Int) 63=((n &&& 63:Nat):Int):=u8_and_nat n 63 (by omega) (by omega);have h:n &&& 63=n%64:=(by simpa using Nat.and_two_pow_sub_one_eq_mod n 6);rw [e,h];omega
theorem aLM (p z:Int) (y:0<=p) (A:p<16777216) (h:0<=z) (j:z<64):bits .or .i32 (p*64) z=p*64+z:=by
 obtain ⟨n,rfl⟩:=Int.eq_ofNat_of_zero_le y;obtain ⟨m,rfl⟩:=Int.eq_ofNat_of_zero_le h;have e:bits .or .i32 ((n*64:Nat):Int) (m:Int)=((n*64 ||| m:Nat):Int):=aFj (n*64) m (by omega) (by omega)
 have u:n*64 ||| m=n*64+m:=by
  have:=Nat.shiftLeft_add_eq_or_of_lt (i:=6) (b:=m) (by omega) n;rw [Nat.shiftLeft_eq] at this;exact this.symm
 rw [u] at e;rw [show ((n:Int)*64)=((n*64:Nat):Int) by omega,e];omega
theorem fB (F:Nat) (v:Value) (zs:List Int) (p:Int) (n:Nat) (c:Bool) (w:World) (y:Frm F w p n c) (hv:RdB F w v zs) (G:Bys zs) (_hm:zs.length<=4194304) (_hn:n<=4)
  (H:zs.length<=n\/¬ zs[n]?.getD 0 / 64=2) :
  Calls prog 169 #[.pointer (some ⟨F,0,none⟩),v] w fun e w'=>e=.returned (.tuple #[])/\Frm F w' p n true/\Below F w w':=by
 obtain ⟨a,cap,rfl,E⟩:=hv;have Y:=y.c0;have O:=y.c1;have X:=y.c2;have U:=y.fr 2;have L:Hid (Frm F w p n c):=y;clear y
 by_cases J:zs.length<=n
 ·clear H E
  go_enter func169,ntmps169
  go_wp2
  first | go_end0 | refine bodyPost_ret (results_none rfl _ _ _) rfl ?_
  exact ⟨rfl,L.out.set2,(Below.refl _ _).setCell (p:=⟨F,2,none⟩) (Nat.le_refl _) _⟩
 ·obtain ⟨b,off,rfl,S,A⟩:=E (fun h=>by simp [h] at J);have D:=A n (by omega);have u:=G.get n;have j:¬ zs[n]?.getD 0 / 64=2:=(by omega);generalize zs[n]?.getD 0=z at D u j;have M:(bits .and .u8 z 192 != 128)=true:=(by rw [aGB z u.1 u.2];simp [j]);have N:n<zs.length:=(by omega);clear H E A j J
  go_enter func169,ntmps169
  go_wp2
  first | go_end0 | refine bodyPost_ret (results_none rfl _ _ _) rfl ?_
  exact ⟨rfl,L.out.set2,(Below.refl _ _).setCell (p:=⟨F,2,none⟩) (Nat.le_refl _) _⟩
theorem mI (F:Nat) (v:Value) (zs:List Int) (p:Int) (n:Nat) (c:Bool) (w:World) (u:Frm F w p n c) (hv:RdB F w v zs) (J:Bys zs) (_hm:zs.length<=4194304) (hn:n<=4)
  (A:n<zs.length) (E:zs[n]?.getD 0 / 64=2) (D:0<=p) (G:p<16777216) :
  Calls prog 169 #[.pointer (some ⟨F,0,none⟩),v] w fun e w'=>e=.returned (.tuple #[])/\Frm F w' (p*64+zs[n]?.getD 0%64) ((n:Int)+1) c/\Below F w w':=by
 obtain ⟨a,cap,rfl,M⟩:=hv;have q0:=u.c0;have q1:=u.c1;have q2:=u.c2;have r0:=u.fr 0;have r1:=u.fr 1;have Y:Hid (Frm F w p n c):=u;clear u;obtain ⟨b,off,rfl,hb,y⟩:=M (fun h=>by simp [h] at A);have H:=y n A;have j:=J.get n;generalize zs[n]?.getD 0=z at H j E;have L:(bits .and .u8 z 192 != 128)=false:=(by rw [aGB z j.1 j.2];simp [E]);have S:bits .and .u8 z 63=z%64:=aJJ z j.1 j.2;have O:bits .or .i32 (p*64) (z%64)=p*64+z%64:=aLM p (z%64) D G (by omega) (by omega);have U:(n:Int)<(zs.length:Int):=(by omega);have Z:¬ b=F:=(by omega);obtain ⟨N,X⟩:=j;clear M y E
 go_enter func169,ntmps169
 go_wp2
 go_region
 go_wp2
 go_end0
 exact ⟨rfl,Y.out.set0.set1,(((Below.refl F w).setCell (p:=⟨F,0,none⟩) (Nat.le_refl _) _).setCell (p:=⟨F,1,none⟩) (Nat.le_refl _) _).drew⟩
theorem rO (p:Int) (w:World):Calls prog 188 #[.int .i64 p] w fun e w'=>e=.returned (.bool (aAt p))/\w=w':=by
 by_cases j:0<=p
 ·by_cases u:p<=1114111
  ·have h:Hid (aAt p=true):=by simp [Hid,aAt,j,u]
   go_enter func188,ntmps188
   go_wp2;go_ret;exact ⟨by rw [h.out];rfl,rfl⟩
  ·have h:Hid (aAt p=false):=by simp [Hid,aAt];omega
   go_enter func188,ntmps188
   go_wp2;go_ret;exact ⟨by rw [h.out];rfl,rfl⟩
 ·have h:Hid (aAt p=false):=by simp [Hid,aAt];omega
  go_enter func188,ntmps188
  go_wp2;go_ret;exact ⟨by rw [h.out];rfl,rfl⟩
theorem pJ (p:Int) (w:World):Calls prog 176 #[.int .i64 p] w fun e w'=>e=.returned (.bool (lU p))/\w=w':=by
 by_cases j:55296<=p
 ·by_cases u:p<56320
  ·have h:Hid (lU p=true):=by simp [Hid,lU,j,u]
   go_enter func176,ntmps176
   go_wp2;go_ret;exact ⟨by rw [h.out];rfl,rfl⟩
  ·have h:Hid (lU p=false):=by simp [Hid,lU];omega
   go_enter func176,ntmps176
   go_wp2;go_ret;exact ⟨by rw [h.out];rfl,rfl⟩
 ·have h:Hid (lU p=false):=by simp [Hid,lU];omega
  go_enter func176,ntmps176
  go_wp2;go_ret;exact ⟨by rw [h.out];rfl,rfl⟩
theorem xA (p:Int) (w:World):Calls prog 177 #[.int .i64 p] w fun e w'=>e=.returned (.bool (mD p))/\w=w':=by
 by_cases j:56320<=p
 ·by_cases u:p<=57343
  ·have h:Hid (mD p=true):=by simp [Hid,mD,j,u]
   go_enter func177,ntmps177
   go_wp2;go_ret;exact ⟨by rw [h.out];rfl,rfl⟩
  ·have h:Hid (mD p=false):=by simp [Hid,mD];omega
   go_enter func177,ntmps177
   go_wp2;go_ret;exact ⟨by rw [h.out];rfl,rfl⟩
 ·have h:Hid (mD p=false):=by simp [Hid,mD];omega
  go_enter func177,ntmps177
  go_wp2;go_ret;exact ⟨by rw [h.out];rfl,rfl⟩
theorem eU (p:Int) (w:World):Calls prog 170 #[.int .i64 p] w fun e w'=>e=.returned (.bool (bW p))/\w=w':=by
 have A:∀ (x:Bool) (w:World),(Op.unary .not (.bool x)).run prog w=.ok (.bool (!x)) w:=fun _ _=>rfl;have u:Hid (bW p=(aAt p && !lU p && !mD p)):=aJs p;cases h:aAt p
 ·go_enter func170,ntmps170
  go_wp2_with (go_at_call 188;refine (rO _ _).mono ?_;rintro e w' ⟨rfl,rfl⟩;rw [h])
  go_ret;exact ⟨by rw [u.out,h];rfl,rfl⟩
 ·cases j:lU p
  ·cases y:mD p
   all_goals
    go_enter func170,ntmps170
    go_wp2_with (first
     | (go_at_call 188;refine (rO _ _).mono ?_;rintro e w' ⟨rfl,rfl⟩;rw [h])
     | (go_at_call 176;refine (pJ _ _).mono ?_;rintro e w' ⟨rfl,rfl⟩;rw [j])
     | (go_at_call 177;refine (xA _ _).mono ?_;rintro e w' ⟨rfl,rfl⟩;rw [y]))
    go_ret;exact ⟨by rw [u.out,h,j,y];rfl,rfl⟩
  ·go_enter func170,ntmps170
   go_wp2_with (first
    | (go_at_call 188;refine (rO _ _).mono ?_;rintro e w' ⟨rfl,rfl⟩;rw [h])
    | (go_at_call 176;refine (pJ _ _).mono ?_;rintro e w' ⟨rfl,rfl⟩;rw [j]))
   go_ret;exact ⟨by rw [u.out,h,j];rfl,rfl⟩
structure Tab (w:World):Prop where
 c0:w.cell? ⟨0,0,none⟩=some (.int .i32 0)
 c1:w.cell? ⟨0,1,none⟩=some (.int .i32 128)
 c2:w.cell? ⟨0,2,none⟩=some (.int .i32 2048)
 c3:w.cell? ⟨0,3,none⟩=some (.int .i32 65536)
 c4:w.cell? ⟨0,4,none⟩=some (.int .i32 2097152)
theorem Tab.K {w w':World} (h:Tab w) (j:w.grownBy w' none):Tab w':=
 ⟨j.cell h.c0 (by simp),j.cell h.c1 (by simp),j.cell h.c2 (by simp),j.cell h.c3 (by simp),j.cell h.c4 (by simp)⟩
theorem Tab.pos {w:World} (h:Tab w):0<w.heap.size:=World.block_lt_of_cell? w _ h.c0
theorem Tab.below {B:Nat} {w w':World} (h:Tab w) (u:Below B w w') (j:0<B):Tab w':=
 ⟨(u.cell j).trans h.c0,(u.cell j).trans h.c1,(u.cell j).trans h.c2,(u.cell j).trans h.c3,(u.cell j).trans h.c4⟩
end Go.Proofs.YtgifkcpdihphlaaGreatDoor
