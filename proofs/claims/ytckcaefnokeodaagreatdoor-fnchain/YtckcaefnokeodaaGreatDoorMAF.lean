import Derived.Laws.BytesArg
import Derived.Laws.IdiomStrings
import Derived.Test.YtckcaefnokeodaaGreatDoorMAB
import Derived.Test.YtckcaefnokeodaaGreatDoorMAE
set_option maxHeartbeats 16000000
set_option maxRecDepth 100000
namespace Go.Proofs.YtckcaefnokeodaaGreatDoor
open Go.Proofs.Tryz Go.RowKit List World
def jU (c:Int):Int:=if aK c then c - 48 else if 97<=c/\c<=102 then c - 97+10 else if 65<=c/\c<=70 then c - 65+10 else -1
def eQ (c:Int):Bool:=decide (0<=jU c)
def isE (c:Int):Bool:=decide (c=101\/c=69)
def aA2 (c:Int):Bool:=decide (c=43\/c=45)
def aX (s:List Int):Bool:=s.all aK
def iD:List Int->Bool
 | []=>false
 | c::_=>aK c
def zX:List Int->Bool
 | []=>false
 | c::_=>eQ c
def eG:List Int->List Int
 | []=>[]
 | c::r=>if aA2 c then r else c::r
def cQ (s:List Int):Bool:=
 let w:=s.takeWhile (· != 46)
 let p:=(s.dropWhile (· != 46)).tail
 if !aX w || !aX p then false
 else if w=[] then decide (w.length<s.length)&&decide (p≠[])
 else decide (w=[48])||decide (w[0]?.getD 0≠48)
def pM (s:List Int):Bool:=decide (eG s≠[])&&aX (eG s)
def oY:List Int:=[73,110,102,105,110,105,116,121]
def nan:List Int:=[78,97,78]
def isX (c:Int):Bool:=decide (c=120\/c=88)
def dL (s:List Int):Bool:=
 if s=oY\/s=nan then true
 else if 2<s.length/\s[0]?.getD 0=48/\isX (s[1]?.getD 0)=true then (s.drop 2).all eQ
 else if s.any isE then cQ (s.takeWhile (fun c=>!isE c))&&pM (s.dropWhile (fun c=>!isE c)).tail
 else cQ s
def oP (s:List Int):Bool:=dL (eG s)
def dK (s:List Int):Bool × List Int:=
 let a:Bool × List Int:=match s with
  | []=>(false,[])
  | c::r=>if c=48 then (true,r) else (aK c,(c::r).dropWhile aK)
 match a.2 with
 | []=>(a.1,[])
 | c::r=>if c=46 then (a.1||iD r,r.dropWhile aK) else (a.1,c::r)
def jC (a:Bool × List Int):Bool × List Int:=
 if !a.1 then (false,a.2)
 else match a.2 with
  | []=>(true,[])
  | c::r=>if isE c then (iD (eG r),(eG r).dropWhile aK) else (true,c::r)
def iB (s:List Int):Bool × List Int:=jC (dK s)
def lK (s:List Int):Bool × List Int:=
 if oY <+: s then (true,s.drop 8)
 else if nan <+: s then (true,s.drop 3)
 else match s with
  | c::x::r=>if c=48/\isX x=true then (zX r,r.dropWhile eQ) else iB s
  | _=>iB s
def dG (s:List Int):Bool:=(lK (eG s)).1&&decide ((lK (eG s)).2=[])
theorem cL (p:Int->Bool) (s:List Int):s.dropWhile p=[] ↔ s.all p=true:=by
 induction s with
 | nil=>simp
 | cons c s ih=>
   rw [dropWhile_cons]
   by_cases h:p c=true
   .simp [h,ih]
   .simp [h]
theorem vF (s) (h:aX s=true) (A:s≠[]):iD s=true:=by
 cases s with
 | nil=>exact absurd rfl A
 | cons c r=>simp [aX] at h;exact h.1
theorem aHR {p:Int->Bool} {s:List Int} {c:Int} {r:List Int} (h:s.dropWhile p=c::r):p c=false/\c∈s:=by
 induction s with
 | nil=>simp at h
 | cons x s ih=>
   rw [dropWhile_cons] at h
   by_cases A:p x=true
   .rw [if_pos A] at h;exact ⟨(ih h).1,mem_cons_of_mem _ (ih h).2⟩
   .rw [if_neg A] at h;cases h;exact ⟨by simpa using A,mem_cons_self⟩
theorem aG9 {p:Int->Bool} {s:List Int} (h:∀ c∈s,p c=true):s.takeWhile p=s/\s.dropWhile p=[]:=by
 have:s.dropWhile p=[]:=(cL p s).2 (by simpa using h);exact ⟨by have:=takeWhile_append_dropWhile (p:=p) (l:=s);simp_all,this⟩
theorem pY {p:Int->Bool} {a b:List Int} {c:Int} (h:∀ x∈a,p x=true) (D:p c=false):(a++c::b).takeWhile p=a/\(a++c::b).dropWhile p=c::b:=by
 induction a with
 | nil=>simp [D]
 | cons x a ih=>
   have A:=h x mem_cons_self;have:=ih (fun y E=>h y (mem_cons_of_mem _ E));simp [A,this.1,this.2]
theorem pP (p:Int->Bool) (s:List Int):(∀ c∈s,p c=true)\/∃ a c b,s=a++c::b/\(∀ x∈a,p x=true)/\p c=false:=by
 induction s with
 | nil=>left;simp
 | cons x s ih=>
   by_cases E:p x=true
   .rcases ih with h | ⟨a,c,b,rfl,F,G⟩
    .left;intro c A;rcases mem_cons.1 A with rfl | A
     .exact E
     .exact h c A
    .right;refine ⟨x::a,c,b,rfl,fun y D=>?_,G⟩;rcases mem_cons.1 D with rfl | D
     .exact E
     .exact F y D
   .right;exact ⟨[],x,s,rfl,by simp,by simpa using E⟩
theorem aAf (s):cQ s=((dK s).1&&decide ((dK s).2=[])):=by
 rcases pP (fun c=>c != 46) s with h | ⟨w,c,p,rfl,M,S⟩
 .have I:=aG9 h;simp only [cQ,I.1,I.2,tail_nil];cases s with
  | nil=>simp [dK,aX]
  | cons c r=>
    by_cases D:c=48
    .subst D;cases r with
     | nil=>simp [dK,aX,aK]
     | cons x r=>
       have H:x≠46:=(by have:=h x (by simp);simpa using this);simp [dK,H]
    .have hD:∀ x,(c::r).dropWhile aK=x->(match x with | []=>(aK c,([]:List Int)) | y::t=>if y=46 then (aK c||iD t,t.dropWhile aK) else (aK c,y::t))=(aK c,x):=by
      intro x H;cases x with
      | nil=>rfl
      | cons y t=>
        have:=h y (aHR H).2;have J:y≠46:=(by simpa using this);simp [J]
     have E:dK (c::r)=(aK c,(c::r).dropWhile aK):=by
      simp only [dK,if_neg D];exact hD _ rfl
     rw [E]
     by_cases A:aX (c::r)=true
     .have:(c::r).dropWhile aK=[]:=(cL _ _).2 A;have G:aK c=true:=vF _ A (by simp);rw [A,this,G];simp [D,aX]
     .have:(c::r).dropWhile aK≠[]:=fun e=>A ((cL _ _).1 e);simp only [A,this];simp
 .have O:c=46:=(by simpa using S);subst O;have I:=pY (b:=p) M S;simp only [cQ,I.1,I.2,tail_cons];cases w with
  | nil=>
    have E:dK ([]++46::p)=(iD p,p.dropWhile aK):=(by simp [dK,show aK 46=false by decide]);rw [E,show aX []=true from rfl]
    by_cases A:aX p=true
    .rw [(cL _ _).2 A,A]
     by_cases F:p=[]
     .simp [F,iD]
     .simp [F,vF _ A F]
    .have:p.dropWhile aK≠[]:=fun e=>A ((cL _ _).1 e);simp [A,this]
  | cons c r=>
    by_cases D:c=48
    .subst D;cases r with
     | nil=>
       have E:dK ([48]++46::p)=(true,p.dropWhile aK):=(by simp [dK]);rw [E,show aX [48]=true from by decide]
       by_cases A:aX p=true
       .rw [(cL _ _).2 A,A];simp
       .have:p.dropWhile aK≠[]:=fun e=>A ((cL _ _).1 e);simp [A,this]
     | cons x r=>
       have H:x≠46:=(by have:=M x (by simp);simpa using this);simp [dK,H]
    .by_cases A:aX (c::r)=true
     .have N:=(pY (p:=aK) (a:=c::r) (c:=46) (b:=p) (by simpa [aX] using A) (by decide)).2;have G:aK c=true:=vF _ A (by simp)
      have E:dK ((c::r)++46::p)=(true,p.dropWhile aK):=by
       simp only [dK,cons_append,if_neg D];rw [show c::(r++46::p)=(c::r)++46::p from rfl,N];simp [G]
      rw [E]
      by_cases F:aX p=true
      .have:=(cL _ _).2 F;simp [A,F,this,D]
      .have:p.dropWhile aK≠[]:=fun e=>F ((cL _ _).1 e);simp [A,F,this]
     .rcases pP aK (c::r) with h | ⟨a,y,b,Y,h1,Z⟩
      .exact absurd (by simpa [aX] using h) A
      .have N:=(pY (p:=aK) (a:=a) (c:=y) (b:=b++46::p) h1 Z).2;have J:y≠46:=by have:=M y (by rw [Y];simp);simpa using this
       have E:dK ((c::r)++46::p)=(aK c,y::(b++46::p)):=by
        simp only [dK,cons_append,if_neg D];rw [show c::(r++46::p)=(c::r)++46::p from rfl,Y,append_assoc,cons_append,N];simp [J]
       rw [E];simp [A]
theorem aE0 (c) (r:List Int) (A:aK c=false) (D:c≠46):cQ (c::r)=false:=by
 have h:c≠48:=fun e=>by rw [e] at A;exact absurd A (by decide)
 have E:dK (c::r)=(false,c::r):=(by simp [dK,h,A,D]);rw [aAf,E];rfl
theorem aFK {e} (A:aK e=false) (s x:List Int):(s++e::x).dropWhile aK=s.dropWhile aK++e::x:=by
 induction s with
 | nil=>simp [A]
 | cons c s ih=>
   by_cases h:aK c=true
   .simp [h,ih]
   .simp [h]
theorem aMS {e} (h:aK e=false) (s x:List Int):iD (s++e::x)=iD s:=by
 cases s with
 | nil=>simp [iD,h]
 | cons c s=>rfl
theorem aJ2 {e} (H:isE e=true) (m x:List Int):dK (m++e::x)=((dK m).1,(dK m).2++e::x):=by
 have F:e=101\/e=69:=(by simpa [isE] using H);have D:aK e=false:=(by rcases F with rfl | rfl<;>decide);have h:e≠46:=(by omega);have E:e≠48:=(by omega);cases m with
 | nil=>simp [dK,E,D,h]
 | cons c r=>
   by_cases G:c=48
   .subst G;cases r with
    | nil=>simp [dK,h]
    | cons y t=>
      by_cases A:y=46
      .simp [dK,A,aFK D]
      .simp [dK,A]
   .have I:=aFK D (c::r) x;simp only [dK,cons_append,if_neg G];rw [show c::(r++e::x)=(c::r)++e::x from rfl,I];cases (c::r).dropWhile aK with
    | nil=>simp [h]
    | cons y t=>
      by_cases A:y=46
      .simp [A,aFK D,aMS D]
      .simp [A]
theorem aEe (s):∀ y∈(dK s).2,y∈s:=by
 have F:∀ (t:List Int),∀ y∈t.dropWhile aK,y∈t:=fun t y E=>(dropWhile_sublist aK).subset E;cases s with
 | nil=>simp [dK]
 | cons c r=>
   by_cases H:c=48
   .subst H;cases r with
    | nil=>simp [dK]
    | cons y t=>
      intro z A
      by_cases E:y=46
      .simp only [dK,E,if_true] at A;have:=F t z A;simp [this]
      .simp only [dK,if_neg E,if_true] at A;exact mem_cons_of_mem _ A
   .intro z A;simp only [dK,if_neg H] at A;cases h:(c::r).dropWhile aK with
    | nil=>rw [h] at A;simp at A
    | cons y t=>
      rw [h] at A;have D:∀ I∈y::t,I∈c::r:=fun I G=>F _ _ (by rw [h];exact G)
      by_cases E:y=46
      .simp only [E,if_true] at A;exact D z (mem_cons_of_mem _ (F t z A))
      .simp only [if_neg E] at A;exact D z A
theorem aMm (x):pM x=(iD (eG x)&&decide ((eG x).dropWhile aK=[])):=by
 unfold pM
 by_cases h:aX (eG x)=true
 .rw [(cL _ _).2 h,h]
  by_cases A:eG x=[]
  .simp [A,iD]
  .simp [A,vF _ h A]
 .have:(eG x).dropWhile aK≠[]:=fun e=>h ((cL _ _).1 e);simp [h,this]
theorem aL5:∀ a:Bool × List Int,(∀ y∈a.2,isE y=false)->(a.1&&decide (a.2=[]))=((jC a).1&&decide ((jC a).2=[]))
 | (false,r),_=>by simp [jC]
 | (true,[]),_=>by simp [jC]
 | (true,c::r),h=>by simp [jC,h c (by simp)]
theorem aKy {e} (A:isE e=true):∀ (a:Bool × List Int),(∀ y∈a.2,isE y=false)->∀ x:List Int,(a.1&&decide (a.2=[])&&(iD (eG x)&&decide ((eG x).dropWhile aK=[])))=((jC (a.1,a.2++e::x)).1&&decide ((jC (a.1,a.2++e::x)).2=[]))
 | (false,r),_,x=>by simp [jC]
 | (true,[]),_,x=>by simp [jC,A]
 | (true,c::r),h,x=>by simp [jC,h c (by simp)]
theorem aMP (s:List Int):(if s.any isE then cQ (s.takeWhile (fun c=>!isE c))&&pM (s.dropWhile (fun c=>!isE c)).tail else cQ s)=((iB s).1&&decide ((iB s).2=[])):=by
 rcases pP (fun c=>!isE c) s with h | ⟨m,e,x,rfl,H,F⟩
 .have A:s.any isE=false:=(by simpa using h);rw [A,if_neg (by simp),aAf];exact aL5 _ (fun y E=>by simpa using h y (aEe s y E))
 .have D:isE e=true:=(by simpa using F);have A:(m++e::x).any isE=true:=(by simp [D]);have G:=pY (p:=fun c=>!isE c) (a:=m) (c:=e) (b:=x) H F;rw [A,if_pos rfl,G.1,G.2,tail_cons,aAf,aMm];rw [iB,aJ2 D];exact aKy D _ (fun y E=>by simpa using H y (aEe m y E)) x
theorem aGf (c) (r:List Int) (h:aK c=false) (D:c≠46) (H:isE c=false) (E:c::r≠oY) (F:c::r≠nan):dL (c::r)=false:=by
 have A:c≠48:=fun e=>by rw [e] at h;exact absurd h (by decide)
 unfold dL;rw [if_neg (by simp [E,F]),if_neg (by simp [A])];have G:(c::r).takeWhile (fun c=>!isE c)=c::r.takeWhile (fun c=>!isE c):=(by simp [H]);rw [G,aE0 c _ h D,aE0 c _ h D];simp
theorem aLP (s):dL s=((lK s).1&&decide ((lK s).2=[])):=by
 by_cases G:oY <+: s
 .obtain ⟨t,rfl⟩:=G
  have D:lK (oY++t)=(true,t):=by
   unfold lK;rw [if_pos (prefix_append _ _)];rfl
  rw [D]
  by_cases E:t=[]
  .subst E;simp [dL]
  .rw [show oY++t=73::([110,102,105,110,105,116,121]++t) from rfl,aGf 73 _ (by decide) (by decide) (by decide) (by simp [oY,E]) (by simp [nan])];simp [E]
 .by_cases H:nan <+: s
  .obtain ⟨t,rfl⟩:=H
   have D:lK (nan++t)=(true,t):=by
    unfold lK;rw [if_neg G,if_pos (prefix_append _ _)];rfl
   rw [D]
   by_cases E:t=[]
   .subst E;simp [dL]
   .rw [show nan++t=78::([97,78]++t) from rfl,aGf 78 _ (by decide) (by decide) (by decide) (by simp [oY]) (by simp [nan,E])];simp [E]
  .have M:¬ (s=oY\/s=nan):=by
    rintro (rfl | rfl)
    .exact G (prefix_refl _)
    .exact H (prefix_refl _)
   by_cases A:∃ x r,s=48::x::r/\isX x=true
   .obtain ⟨x,r,rfl,A⟩:=A
    have D:lK (48::x::r)=(zX r,r.dropWhile eQ):=by
     unfold lK;rw [if_neg G,if_neg H];simp [A]
    rw [D];unfold dL;rw [if_neg M];have J:x=120\/x=88:=(by simpa [isX] using A);cases r with
    | nil=>
      rw [if_neg (by simp),aAf];clear G H M D A;rcases J with rfl | rfl<;>decide
    | cons h r=>
      rw [if_pos (by simp [A])]
      by_cases F:(h::r).all eQ=true
      .rw [(cL _ _).2 F];simp only [drop_succ_cons,drop_zero,F];simp at F;simp [zX,F.1]
      .have:(h::r).dropWhile eQ≠[]:=fun e=>F ((cL _ _).1 e);simp only [drop_succ_cons,drop_zero,F,this];simp
   .have D:lK s=iB s:=by
     unfold lK;rw [if_neg G,if_neg H]
     match s,A with
     | [],_=>rfl
     | [c],_=>rfl
     | c::x::r,A=>
       simp only;rw [if_neg (fun h=>A ⟨x,r,by rw [h.1],h.2⟩)]
    rw [D,<- aMP];unfold dL;rw [if_neg M,if_neg];rintro ⟨O,I,N⟩
    match s,A,O,I,N with
    | c::x::r,A,O,I,N=>exact A ⟨x,r,by simp at I;rw [I],by simpa using N⟩
theorem aMg (s):oP s=dG s:=aLP _
theorem eF (p:Int) (w):Calls prog 128 #[.int .i64 p] w fun e D=>e=.returned (.bool (aK p))/\w=D:=by
 by_cases A:48<=p
 .by_cases E:p<=57
  .have h:Hid (aK p=true):=by simp [Hid,aK,A,E]
   go_enter func128,ntmps128
   go_wp2;go_ret;exact ⟨by rw [h.out];rfl,rfl⟩
  .have h:Hid (aK p=false):=by simp [Hid,aK];omega
   go_enter func128,ntmps128
   go_wp2;go_ret;exact ⟨by rw [h.out];rfl,rfl⟩
 .have h:Hid (aK p=false):=by simp [Hid,aK];omega
  go_enter func128,ntmps128
  go_wp2;go_ret;exact ⟨by rw [h.out];rfl,rfl⟩
theorem aCy (p:Int) (w):Calls prog 161 #[.int .i64 p] w fun e D=>e=.returned (.int .i64 (jU p))/\w=D:=by
 cases h:aK p
 .by_cases E:97<=p
  .by_cases I:p<=102
   .have A:Hid (jU p=p - 97+10):=by simp [Hid,jU,h,E,I]
    go_enter func161,ntmps161
    go_wp2_with (go_at_call 128;refine (eF _ _).mono ?_;rintro e D ⟨rfl,rfl⟩;rw [h])
    go_ret;exact ⟨by rw [A.out];first | rfl | (congr 2;go_num),rfl⟩
   .have F:¬ p<=70:=(by omega);have A:Hid (jU p = -1):=(by simp [Hid,jU,h,E,I];omega);have H:65<=p:=by omega
    go_enter func161,ntmps161
    go_wp2_with (go_at_call 128;refine (eF _ _).mono ?_;rintro e D ⟨rfl,rfl⟩;rw [h])
    go_ret;exact ⟨by rw [A.out];rfl,rfl⟩
  .by_cases F:65<=p
   .by_cases H:p<=70
    .have A:Hid (jU p=p - 65+10):=by simp [Hid,jU,h,E,F,H]
     go_enter func161,ntmps161
     go_wp2_with (go_at_call 128;refine (eF _ _).mono ?_;rintro e D ⟨rfl,rfl⟩;rw [h])
     go_ret;exact ⟨by rw [A.out];first | rfl | (congr 2;go_num),rfl⟩
    .have A:Hid (jU p = -1):=by simp [Hid,jU,h,E,F,H]
     go_enter func161,ntmps161
     go_wp2_with (go_at_call 128;refine (eF _ _).mono ?_;rintro e D ⟨rfl,rfl⟩;rw [h])
     go_ret;exact ⟨by rw [A.out];rfl,rfl⟩
   .have A:Hid (jU p = -1):=by simp [Hid,jU,h,E,F]
    go_enter func161,ntmps161
    go_wp2_with (go_at_call 128;refine (eF _ _).mono ?_;rintro e D ⟨rfl,rfl⟩;rw [h])
    go_ret;exact ⟨by rw [A.out];rfl,rfl⟩
 .have A:Hid (jU p=p - 48):=(by simp [Hid,jU,h]);have G:48<=p/\p<=57:=(by simpa [aK] using h);obtain ⟨M,J⟩:=G
  go_enter func161,ntmps161
  go_wp2_with (go_at_call 128;refine (eF _ _).mono ?_;rintro e D ⟨rfl,rfl⟩;rw [h])
  go_ret;exact ⟨by rw [A.out];first | rfl | (congr 2;go_num),rfl⟩
def nxP (zs:List Int) (n:Nat):Int:=if n<zs.length then fpP (zs.drop n) else -1
def nxS (zs:List Int) (n:Nat):Nat:=if n<zs.length then aJ (zs.drop n) else 0
theorem aC4 {A:List Int} {n:Nat} (h:¬ n<A.length):nxP A n = -1:=by simp [nxP,h]
theorem aLq {A:List Int} {n:Nat} (h:¬ n<A.length):nxS A n=0:=by simp [nxS,h]
theorem aDx {A:List Int} {n:Nat} (h:n<A.length):nxP A n=fpP (A.drop n):=by simp [nxP,h]
theorem aGa {A:List Int} {n:Nat} (h:n<A.length):nxS A n=aJ (A.drop n):=by simp [nxS,h]
theorem aMz (A:List Int) (n:Nat) (h:n<=A.length):n+nxS A n<=A.length:=by
 unfold nxS
 split
 .have:=wM (A.drop n);rw [length_drop] at this;omega
 .omega
theorem aLB {A n} (h:nxP A n≠-1):0<nxS A n/\n<A.length:=by
 by_cases D:n<A.length
 .refine ⟨?_,D⟩;rw [aDx D] at h;rw [aGa D];rcases Nat.eq_zero_or_pos (aJ (A.drop n)) with e | e
  .exact absurd (fA e) h
  .exact e
 .exact absurd (aC4 D) h
def skN (P:Int->Bool) (zs:List Int):Nat->Nat->Nat
 | 0,n=>n
 | f+1,n=>if nxP zs n≠-1/\P (nxP zs n)=true then skN P zs f (n+nxS zs n) else n
theorem aIt {P:Int->Bool} {h} {f:Nat} {n} (D:nxP h n≠-1) (A:P (nxP h n)=true):skN P h (f+1) n=skN P h f (n+nxS h n):=by
 rw [skN,if_pos ⟨D,A⟩]
theorem aEu {P:Int->Bool} {A f n} (h:nxP A n = -1\/P (nxP A n)=false):skN P A f n=n:=by
 cases f with
 | zero=>rfl
 | succ f=>
   rw [skN,if_neg];rintro ⟨E,D⟩;rcases h with h | h
   .exact E h
   .rw [h] at D;cases D
theorem aEK {A} (I:Bys A) {n:Nat} (O:n<A.length) (h:A[n]?.getD 0<128):nxP A n=A[n]?.getD 0/\nxS A n=1:=by
 have E:=I.get n;have M:(A.drop n)[0]?.getD 0=A[n]?.getD 0:=(by simp [getElem?_drop]);have H:1<=(A.drop n).length:=(by rw [length_drop];omega);generalize S:A.drop n=s at M H;rw [aDx O,aGa O,S,<- M];rw [<- M] at h E
 have G:lv s 1=s[0]?.getD 0:=by
  rw [kY (by omega) (by rw [lZ _ h];omega),lZ _ h];rfl
 have J:cC (s[0]?.getD 0)=true:=(by simp [cC];omega);have D:cP (s[0]?.getD 0)=1:=(by unfold cP;rw [if_pos J,if_pos h]);have F:hit s 1=true:=(gC G E.1).2 D;have N:aJ s=1:=(by unfold aJ;rw [if_pos F]);exact ⟨vU (by omega) N G,N⟩
theorem aHj {s} (h:aJ s≠0):hit s (aJ s)=true:=by
 unfold aJ at h ⊢
 split
 .assumption
 .split
  .assumption
  .split
   .assumption
   .split
    .assumption
    .simp_all
theorem aLj {A:List Int} {n:Nat} (J:n<A.length) (h:¬ A[n]?.getD 0<128):nxP A n = -1\/128<=nxP A n:=by
 have H:(A.drop n)[0]?.getD 0=A[n]?.getD 0:=(by simp [getElem?_drop]);rw [aDx J];rw [<- H] at h;generalize A.drop n=s at h
 by_cases E:aJ s=0
 .exact .inl (fA E)
 .right;have M:hit s 1=false:=cO (by simp [jH,h]);have D:=aHj E;have I:fpP s=lv s (aJ s):=(by simp [fpP,E]);rw [I];have N:aJ s≠1:=fun e=>by rw [e,M] at D;cases D
  simp only [hit,Bool.and_eq_true,decide_eq_true_eq,beq_iff_eq] at D;apply Classical.byContradiction;intro G;have F:cC (lv s (aJ s))=true:=(by simp [cC];omega);have:=D.2;rw [cP,if_pos F,if_pos (by omega)] at this;omega
def Asc (P:Int->Bool):Prop:=∀ p,P p=true->0<=p/\p<128
theorem aIB {P:Int->Bool} (H:Asc P) {h} (F:Bys h):∀ (f n:Nat),n<=h.length->h.length - n<f->
  h.drop (skN P h f n)=(h.drop n).dropWhile P/\n<=skN P h f n/\skN P h f n<=h.length/\(n<skN P h f n ↔ (n<h.length/\P (h[n]?.getD 0)=true)):=by
 intro f
 induction f with
 | zero=>intro n I S;omega
 | succ f ih=>
   intro n I S
   by_cases E:n<h.length
   .have N:=drop_eq_getElem_cons E;have O:h[n]?.getD 0=h[n]:=by simp [E]
    by_cases A:P (h[n]?.getD 0)=true
    .have G:=aEK F E (H _ A).2;have M:nxP h n≠-1:=(by rw [G.1];have:=(H _ A).1;omega);have:=ih (n+1) (by omega) (by omega);rw [aIt M (by rw [G.1];exact A),G.2];refine ⟨?_,by omega,this.2.2.1,fun _=>⟨E,A⟩,fun _=>by omega⟩;rw [this.1,N,dropWhile_cons,if_pos (by rw [<- O];exact A)]
    .have J:nxP h n = -1\/P (nxP h n)=false:=by
      by_cases D:h[n]?.getD 0<128
      .right;rw [(aEK F E D).1];simpa using A
      .rcases aLj E D with e | e
       .exact .inl e
       .right;cases Y:P (nxP h n)
        .rfl
        .have:=(H _ Y).2;omega
     rw [aEu J];refine ⟨?_,Nat.le_refl _,I,by simp [A]⟩;rw [N,dropWhile_cons,if_neg (by rw [<- O];simpa using A)]
   .rw [aEu (.inl (aC4 E))];refine ⟨?_,Nat.le_refl _,I,by omega⟩;rw [drop_of_length_le (by omega)];rfl
structure Sc (sb:Nat) (w:World) (tv:Value) (n:Nat):Prop where
 c0:w.cell? ⟨sb,0,none⟩=some tv
 c1:w.cell? ⟨sb,1,none⟩=some (.int .i64 n)
 fz:∀ j,w.frozen? ⟨sb,j,none⟩=false
theorem Sc.lt {A w D n} (h:Sc A w D n):A<w.heap.size:=block_lt_of_cell? w _ h.c0
theorem Sc.K {A w w' E n} (h:Sc A w E n) (D:w.grownBy w' none):Sc A w' E n:=
 ⟨D.cell h.c0 (by simp),D.cell h.c1 (by simp),fun j=>(frozen?_of_block (D.block A h.lt (by simp))).trans (h.fz j)⟩
theorem Sc.put {A w D n} (h:Sc A w D n) (m:Int) (k:Nat) (E:m=k):Sc A (w.setCell ⟨A,1,none⟩ (.int .i64 m)) D k:=by
 subst E;have H:=h.c0;have G:=h.c1;have F:=h.fz;exact ⟨by simp [go_sem,H],by simp [go_sem,G],fun j=>by simpa using F j⟩
structure Tx (B:Nat) (w:World) (tv:Value) (zs:List Int):Prop where
 rd:RdB B w tv zs
 sl:Sl tv zs.length
 by_:Bys zs
 len:zs.length<=1048576
theorem Tx.K {B w w' A D} (h:Tx B w A D) (E:w.grownBy w' none):Tx B w' A D:=⟨h.rd.K E,h.sl,h.by_,h.len⟩
theorem Tx.beside {B} {E:Nat} {w A D F} (h:Tx B w D F) (H:B<=E) (G:w.grownBy A (some E)):Tx B A D F:=
 ⟨h.rd.beside G (fun k e=>by cases e;exact H),h.sl,h.by_,h.len⟩
theorem uT (w:World) (h j:Nat) (x):w.grownBy (w.setCell ⟨h,j,none⟩ x) (some h):=by
 refine ⟨rfl,rfl,rfl,by simp,fun i D A=>?_⟩;exact Below.heap_setCell _ _ _ _ (fun e=>A (by rw [e]))
theorem oM {a:World} {b r} (h:a.grownBy b r):a.grownBy b.drew r:=⟨h.os,h.tape,h.output,h.size,h.block⟩
theorem gY {a:World} {b r} (h:a.grownBy b none):a.grownBy b r:=⟨h.os,h.tape,h.output,h.size,fun i A _=>h.block i A (by simp)⟩
theorem aCD (A n D E w) (h:Sc A w D n) (G:Tx A w D E) :
  Calls prog 151 #[.pointer (some ⟨A,0,none⟩)] w fun e H=>e=.returned (.bool ((n:Int)==(E.length:Int)))/\w.grownBy H none:=by
 obtain ⟨a,F,rfl,_⟩:=G.rd;have J:=h.c0;have I:=h.c1
 go_enter func151,ntmps151
 go_wp2_with fail
 go_quiet (fail)
 go_wp2;go_ret;exact ⟨rfl,cA (grownBy.refl _ _) _⟩
theorem aEw (M n tv D w) (hT:Tab w) (h:Sc M w tv n) (ht:Tx M w tv D) (hn:n<=D.length) :
  Calls prog 183 #[.pointer (some ⟨M,0,none⟩)] w fun e w'=>e=.returned (.int .i32 (nxP D n))/\Sc M w' tv (n+nxS D n)/\w.grownBy w' (some M):=by
 have hE:=aCD M n tv D w h ht;have Y:=aB h;have h0:=h.c0;have h1:=h.c1;have h2:=h.fz;have c6:=h.lt;have c2:=ht.len;have a5:=ht.by_;clear h
 by_cases A:n<D.length
 .have H:((n:Int)==(D.length:Int))=false:=(by simp;omega);obtain ⟨a,E,rfl,hr⟩:=ht.rd;obtain ⟨b,I,rfl,hb,hc⟩:=hr (fun e=>by simp [e] at A);obtain ⟨a',a1,G,b2,a7⟩:=ht.sl;have a9:E=a1:=(by simp at G;exact G.2);subst a9;unfold maxLen at a7;have c3:b<w.heap.size:=(by omega);obtain ⟨s,J⟩:∃ s,s=D.drop n:=⟨_,rfl⟩;have a8:s.length=D.length - n:=by rw [J,length_drop]
  have N:∀ W,w.grownBy W none->RdB W.heap.size W (.slice (some ⟨b,I+n,none⟩) (D.length - n) (E - n)) s:=by
   intro W S;refine ⟨some ⟨b,I+n,none⟩,E - n,by rw [a8],fun _=>⟨b,I+n,rfl,by have:=S.size;omega,fun j hj=>?_⟩⟩;rw [Nat.add_assoc,S.cell (hc (n+j) (by omega)) (by simp),J,qM]
  have Z:Bys s:=fun z hz=>a5 z (by rw [J] at hz;exact mem_of_mem_drop hz);have F:=fun W S=>rJ _ s W (hT.K S) (N W S) Z (by omega) (by omega);have HP:Hid (nxP D n=fpP s):=(by rw [Hid,aDx A,J]);have HS:Hid (nxS D n=aJ s):=(by rw [Hid,aGa A,J]);have a6:aJ s<=D.length:=(by have:=wM s;omega);have c8:¬ E=n:=(by omega);clear hr hc G J N Z;generalize fpP s=p at F HP;generalize aJ s=m at F HS a6
  go_enter func183,ntmps183
  go_wp2_with fail
  refine hE.mono ?_;rintro e w0 ⟨rfl,g0⟩;rw [H];have c0:=g0.cell h0 (by simp);have c1:=g0.cell h1 (by simp);have HF:=aB (F w0.drew (oM g0));clear h0 h1 h2 F
  go_wp2_with fail
  go_region_with (go_at_call 153;refine HF.out.mono ?_;rintro e w1 ⟨rfl,a0⟩)
  all_goals
   have O:=aA (oM g0) (aC a0);have k:=Y.out.K O;have k0:=k.c0;have k1:=k.c1;have k2:=k.fz;have HK:=aB k;clear k a0;go_wp2;go_ret;refine ⟨by rw [HP.out];rfl,by rw [HS.out];exact HK.out.put _ _ (by go_num),aA (gY O) (uT _ _ _ _)⟩
 .have H:((n:Int)==(D.length:Int))=true:=by simp;omega
  go_enter func183,ntmps183
  go_wp2_with fail
  refine hE.mono ?_;rintro e w1 ⟨rfl,O⟩;rw [H];go_wp2;go_ret;exact ⟨by rw [aC4 A];rfl,by rw [aLq A];exact Y.out.K O,gY O⟩
theorem fO (h):(strOfNums h).toList=h.map fun n=>UInt8.ofNat n.toNat:=by
 rw [ByteArray.toList_eq];rfl
theorem aMi {x y:Int} (A:0<=x/\x<=255) (D:0<=y/\y<=255) (h:UInt8.ofNat x.toNat=UInt8.ofNat y.toNat):x=y:=by
 have:=congrArg UInt8.toNat h;simp only [UInt8.toNat_ofNat'] at this;omega
theorem aGO:∀ {D A:List Int},Bys D->Bys A->(D.map (fun n=>UInt8.ofNat n.toNat))=(A.map (fun n=>UInt8.ofNat n.toNat))->D=A
 | [],[],_,_,_=>rfl
 | [],_::_,_,_,h=>by simp at h
 | _::_,[],_,_,h=>by simp at h
 | x::D,y::A,hx,hy,h=>by
   simp only [map_cons,List.cons.injEq] at h;rw [aMi (hx x (by simp)) (hy y (by simp)) h.1,aGO (fun z E=>hx z (by simp [E])) (fun z E=>hy z (by simp [E])) h.2]
theorem aD0 {A ys} (D:Bys A) (E:Bys ys):((strOfNums A).toList==(strOfNums ys).toList)=decide (A=ys):=by
 rw [fO,fO]
 by_cases h:A=ys
 .subst h;simp
 .have:¬ (A.map (fun n=>UInt8.ofNat n.toNat))=(ys.map (fun n=>UInt8.ofNat n.toNat)):=fun e=>h (aGO D E e);simp [h,this]
theorem qF {B w v D} (h:Rd .u8 B w v D):(convert 22 9 v).run prog w=.ok (.string (strOfNums D)) w:=by
 obtain ⟨a,A,rfl,J⟩:=h
 by_cases F:D=[]
 .subst F;cases a with
  | none=>exact run_convert_bytes_nil w 22 5 underlying22 underlying5 _ _ 9 underlying9
  | some x=>
    rw [run_convert_bytes_string w 22 9 5 _ _ A underlying22 underlying5 underlying9];have:=run_bytesToString (P:=prog) w x 0 A [] (run_loadCells_list (P:=prog) w x [] (fun j v H=>by simp at H));rw [show ([]:List Int).length=0 from rfl,this];rfl
 .obtain ⟨b,E,rfl,M,G⟩:=J F;exact run_convert_bytes_arg w 22 5 underlying22 underlying5 b E D.length A D rfl (fun i I=>by rw [G i I];simp [getD]) 9 underlying9
theorem aA0 (D H A h) (w:World) (F:RdB w.heap.size w D A) (E:RdB w.heap.size w H h) (N:Bys A) (J:Bys h) :
  Calls prog 169 #[D,H] w fun e O=>e=.returned (.bool (decide (A=h)))/\w=O:=by
 have Z:=qF F;have S:=qF E;have I:=aB (aD0 N J);obtain ⟨a,M,rfl,_⟩:=F;obtain ⟨Y,G,rfl,_⟩:=E
 go_enter func169,ntmps169
 go_wp2;go_ret;exact ⟨by rw [<- I.out];rfl,rfl⟩
theorem aD7 (A h:List Int):decide (h <+: A)=decide (A.take h.length=h):=by
 exact decide_eq_decide.2 (prefix_iff_eq_take.trans eq_comm)
theorem aBK (S v2 D A) (w:World) (h1:RdB w.heap.size w S D) (s1:Sl S D.length) (Y:RdB w.heap.size w v2 A) (b1:Bys D) (b2:Bys A) (_hl:D.length<=1048576) (b3:A.length<=1048576) :
  Calls prog 181 #[S,v2] w fun e w'=>e=.returned (.bool (decide (A <+: D)))/\w=w':=by
 obtain ⟨a,E,Z,a0,O⟩:=s1;obtain ⟨a',a4,I,_⟩:=id Y
 by_cases F:A.length<=D.length
 .have M:=aB (aD7 D A)
  have J:RdB w.heap.size w (.slice a A.length E) (D.take A.length):=by
   obtain ⟨a2,H,G,J⟩:=h1;have e:a=a2/\E=H:=(by rw [Z] at G;simpa using G);refine ⟨a,E,by rw [length_take_of_le F],fun h0=>?_⟩;obtain ⟨b,N,ha,hb,hc⟩:=J (fun e=>h0 (by rw [e];simp));refine ⟨b,N,by rw [e.1];exact ha,hb,fun j hj=>?_⟩;rw [length_take_of_le F] at hj;rw [hc j (by omega)];simp [hj]
  have HE:=aB (aA0 _ _ _ _ w J Y (fun z hz=>b1 z (mem_of_mem_take hz)) b2);subst Z I;clear h1 Y J;unfold maxLen at O
  go_enter func181,ntmps181
  go_wp2_with (go_at_call 169;refine HE.out.mono ?_;rintro e w' ⟨rfl,rfl⟩)
  go_ret;exact ⟨by rw [M.out];rfl,rfl⟩
 .have M:Hid (decide (A <+: D)=false):=by
   simp only [Hid,decide_eq_false_iff_not];intro h;exact F h.length_le
  subst Z I
  go_enter func181,ntmps181
  go_wp2;go_ret;exact ⟨by rw [M.out];rfl,rfl⟩
section
attribute [-go_sem] run_index_string
theorem rZ {h} (E:Bys h) {k:Nat} (A:k<h.length) (W:World) :
  (Instr.index 9 (.string (strOfNums h)) (.int .i64 (k:Int))).run prog W=.ok (.int .u8 (h[k]?.getD 0)) W:=by
 rw [run_index_string W 9 (strOfNums h) .i64 (k:Int) underlying9];have D:(strOfNums h).size=h.length:=strOfNums_size h;rw [dif_pos ⟨by omega,by rw [D];omega⟩];have F:=E _ (getElem_mem A);congr 2;simp only [Int.toNat_natCast]
 have:((strOfNums h)[k]'(by rw [D];exact A))=UInt8.ofNat (h[k]).toNat:=by
  simp [strOfNums,ByteArray.getElem_eq_getElem_data]
 rw [this];simp [A];omega
theorem bZ (h w) (O:Bys h) (hl:h.length<=1048576) :
  Calls prog 148 #[.string (strOfNums h)] w fun e M=>e=.returned (.bool (aX h))/\w=M:=by
 have N:∀ (x:Bool) (w:World),(Op.unary .not (.bool x)).run prog w=.ok (.bool (!x)) w:=fun _ _=>rfl;have Z:(strOfNums h).size=h.length:=strOfNums_size h
 go_enter func148,ntmps148
 go_wp2
 go_loopw [3] (fun i wr=>∃ k:Nat,k<=h.length/\i=.int .i64 k/\(h.take k).all aK=true/\w=wr)
  (fun i _=>h.length - (intOf i).toNat)
 case atStart=>exact ⟨0,Nat.zero_le _,rfl,rfl,rfl⟩
 case round=>
  obtain ⟨k,hk,rfl,A,rfl⟩:=hrel
  by_cases D:k<h.length
  .have F:=aB (mH h aK k D A);have G:=aB (zY h aK k D);have J:=rZ O D w;have E:=O.get k;generalize h[k]?.getD 0=p at J F G E;obtain ⟨Y,S⟩:=E;cases H:aK p
   .have I:Hid (aX h=false):=G.out H
    go_wp2_with (go_at_call 128;refine (eF _ _).mono ?_;rintro e M ⟨rfl,rfl⟩;rw [H])
    go_ret;exact ⟨by rw [I.out];rfl,rfl⟩
   .have HT:Hid ((h.take (k+1)).all aK=true):=F.out H
    go_wp2_with (go_at_call 128;refine (eF _ _).mono ?_;rintro e M ⟨rfl,rfl⟩;rw [H])
    go_roundw
    case rel=>exact ⟨k+1,by omega,by go_num,HT.out,trivial⟩
    case measure=>simp [intOf];omega
  .have I:Hid (aX h=true):=by
    rw [take_of_length_le (by omega)] at A;exact A
   clear A;go_wp2;go_ret;exact ⟨by rw [I.out];rfl,rfl⟩
theorem aFd (h w) (N:Bys h) (hl:h.length<=1048576) :
  Calls prog 146 #[.string (strOfNums h)] w fun e J=>e=.returned (.bool (h.all eQ&&decide (0<h.length)))/\w=J:=by
 have M:∀ (x:Bool) (w:World),(Op.unary .not (.bool x)).run prog w=.ok (.bool (!x)) w:=fun _ _=>rfl;have Z:(strOfNums h).size=h.length:=strOfNums_size h
 go_enter func146,ntmps146
 go_wp2
 go_loopw [3] (fun i wr=>∃ k:Nat,k<=h.length/\i=.int .i64 k/\(h.take k).all eQ=true/\w=wr)
  (fun i _=>h.length - (intOf i).toNat)
 case atStart=>exact ⟨0,Nat.zero_le _,rfl,rfl,rfl⟩
 case round=>
  obtain ⟨k,hk,rfl,A,rfl⟩:=hrel
  by_cases F:k<h.length
  .have D:=aB (mH h eQ k F A);have E:=aB (zY h eQ k F);have I:=rZ N F w;have G:=N.get k;generalize h[k]?.getD 0=p at I D E G;obtain ⟨Y,O⟩:=G
   by_cases S:0<=jU p
   .have HT:Hid ((h.take (k+1)).all eQ=true):=D.out (by simp [eQ,S]);clear D E
    go_wp2_with (go_at_call 161;refine (aCy _ _).mono ?_;rintro e J ⟨rfl,rfl⟩)
    go_roundw
    case rel=>exact ⟨k+1,by omega,by go_num,HT.out,trivial⟩
    case measure=>simp [intOf];omega
   .have H:Hid ((h.all eQ&&decide (0<h.length))=false):=(by rw [Hid,E.out (by simp [eQ];omega)];rfl);clear D E
    go_wp2_with (go_at_call 161;refine (aCy _ _).mono ?_;rintro e J ⟨rfl,rfl⟩)
    go_ret;exact ⟨by rw [H.out];rfl,rfl⟩
  .have H:Hid ((h.all eQ&&decide (0<h.length))=decide (0<h.length)):=by
    rw [take_of_length_le (by omega)] at A;rw [Hid,A];rfl
   clear A;go_wp2;go_ret;exact ⟨by rw [H.out];rfl,rfl⟩
theorem lM (D) (h A:Nat):(strOfNums D).extract h A=strOfNums ((D.drop h).take (A - h)):=by
 apply ByteArray.ext;simp only [strOfNums,ByteArray.data_extract];apply Array.ext';simp [map_take,map_drop]
def iQ (zs:List Int):Int:=if zs.any (· == 46) then ((zs.takeWhile (· != 46)).length:Int) else -1
theorem aAe {A a b:List Int} (h:A=a++46::b) (D:∀ y∈a,(y != 46)=true):iQ A=a.length:=by
 subst h;unfold iQ;rw [if_pos (by simp),(pY (b:=b) D (by decide)).1]
theorem aFo {D:List Int} (F:∀ y∈D,(y != 46)=true):iQ D = -1:=by
 unfold iQ;rw [if_neg];intro A;rw [any_eq_true] at A;obtain ⟨y,E,h⟩:=A;have:=F y E;simp at this h;exact this h
theorem aGT (D:List Int):(∀ y∈D,(y != 46)=true)\/∃ a b,D=a++46::b/\∀ y∈a,(y != 46)=true:=by
 rcases pP (fun c=>c != 46) D with h | ⟨a,x,b,h,E,F⟩
 .exact .inl h
 .have A:x=46:=(by simpa using F);subst A;exact .inr ⟨a,b,h,E⟩
theorem aKa (D:List Int) (c:Int):iQ (D++[c])=if 0<=iQ D then iQ D else if c=46 then (D.length:Int) else -1:=by
 rcases aGT D with h | ⟨a,b,rfl,F⟩
 .rw [aFo h,if_neg (by omega)]
  by_cases E:c=46
  .subst E;rw [if_pos rfl,aAe rfl h]
  .rw [if_neg E];refine aFo (fun y A=>?_);rcases mem_append.1 A with A | A
   .exact h y A
   .simp at A;subst A;simpa using E
 .rw [aAe rfl F,if_pos (by omega),aAe (a:=a) (b:=b++[c]) (by simp) F]
theorem aL3 (A) : -1<=iQ A/\iQ A<=A.length:=by
 rcases aGT A with h | ⟨a,b,rfl,D⟩
 .rw [aFo h];omega
 .rw [aAe rfl D];simp;omega
theorem aEO {A} (h:iQ A<0):A.takeWhile (· != 46)=A/\(A.dropWhile (· != 46)).tail=[]/\iQ A = -1:=by
 unfold iQ at h ⊢
 split at h
 .omega
 .rename_i hn
  have D:∀ y∈A,(y != 46)=true:=by
   intro y E;simp only [any_eq_true,not_exists,not_and] at hn;have:=hn y E;simpa using this
  have:=aG9 D;exact ⟨this.1,by rw [this.2];rfl,if_neg hn⟩
theorem aJN {A:List Int} (h:¬ iQ A<0):∃ p:Nat,iQ A=p/\p<A.length/\A.takeWhile (· != 46)=A.take p/\(A.dropWhile (· != 46)).tail=A.drop (p+1):=by
 rcases pP (fun c=>c != 46) A with M | ⟨a,x,b,rfl,J,G⟩
 .exfalso;apply h;unfold iQ;rw [if_neg]
  .omega
  .intro H;rw [any_eq_true] at H;obtain ⟨y,I,F⟩:=H;have:=M y I;simp at this F;exact this F
 .have E:=pY (b:=b) J G;have D:x=46:=(by simpa using G);refine ⟨a.length,?_,by simp,by rw [E.1,take_left],by rw [E.2,tail_cons,<- drop_drop,drop_left];rfl⟩;unfold iQ;rw [if_pos (by simp [D]),E.1]
theorem dS (h):(strOfNums h).toList.isEmpty=decide (h=[]):=by
 rw [fO];cases h<;>simp
theorem aFO {A} (E:Bys A):((strOfNums A).toList==[48])=decide (A=[48]):=by
 have h:=aD0 E (ys:=[48]) (fun z D=>by simp at D;omega);rw [show (strOfNums [48]).toList=[48] from by rw [fO];rfl] at h;exact h
theorem aGU {A} (D:Bys A):((strOfNums A).toList=[48])=(A=[48]):=by
 have:=aFO D
 by_cases h:A=[48]
 .rw [decide_eq_true h] at this;simpa [h] using this
 .rw [decide_eq_false h] at this;simpa [h] using this
theorem fZ {h} (D:Bys h) (A:h≠[]) (W:World) :
  (Instr.index 9 (.string (strOfNums h)) (.int .i64 0)).run prog W=.ok (.int .u8 (h[0]?.getD 0)) W:=by
 simpa using rZ D (k:=0) (length_pos_iff.2 A) W
def wpS (pt:Bool) (ws ps:List Int):Bool:=if !aX ws || !aX ps then false else if ws=[] then pt&&decide (ps≠[]) else (decide (ws=[48])||decide (ws[0]?.getD 0≠48))
theorem aHl {zs} (h:iQ zs<0):cQ zs=wpS false zs []:=by
 obtain ⟨E,D,_⟩:=aEO h;unfold cQ wpS;simp only [E,D]
 by_cases A:zs=[]
 .simp [A]
 .simp [A]
theorem aHy {h:List Int} {p:Nat} (E:p<h.length) (D:h.takeWhile (· != 46)=h.take p) (A:(h.dropWhile (· != 46)).tail=h.drop (p+1)):cQ h=wpS true (h.take p) (h.drop (p+1)):=by
 unfold cQ wpS;simp only [D,A];rw [show decide ((h.take p).length<h.length)=true by simp;omega]
theorem wD (A w) (hb:Bys A) (hl:A.length<=1048576) :
  Calls prog 147 #[.string (strOfNums A)] w fun e G=>e=.returned (.bool (cQ A))/\w=G:=by
 have c3:∀ (x:Bool) (w:World),(Op.unary .not (.bool x)).run prog w=.ok (.bool (!x)) w:=fun _ _=>rfl;have c6:(strOfNums A).size=A.length:=strOfNums_size A
 go_enter func147,ntmps147
 go_wp2
 go_loopw [3,4] (fun p i wr=>∃ k:Nat,k<=A.length/\i=.int .i64 k/\p=.int .i64 (iQ (A.take k))/\w=wr)
  (fun _ i _=>A.length - (intOf i).toNat)
 case atStart=>exact ⟨0,Nat.zero_le _,rfl,rfl,rfl⟩
 case round=>
  obtain ⟨k,hk,rfl,rfl,rfl⟩:=hrel
  by_cases a7:k<A.length
  .have a0:=aKa (A.take k) (A[k]?.getD 0);rw [<- dM A k a7,length_take_of_le hk] at a0;have O:=rZ hb a7 w;have a6:=hb.get k;generalize A[k]?.getD 0=c at O a0 a6;obtain ⟨Y,c4⟩:=a6;have HS:=aB a0;clear a0;have b6:=aL3 (A.take k);generalize iQ (A.take k)=d at HS b6
   by_cases J:c=46
   .have e1:(c==46)=true:=by simp [J]
    by_cases hd:d<0
    .have HT:Hid (iQ (A.take (k+1))=(k:Int)):=(by rw [Hid,HS.out,if_neg (by omega),if_pos J]);clear J;go_wp2
     go_roundw
     case rel=>exact ⟨k+1,by omega,by go_num,by rw [HT.out],trivial⟩
     case measure=>simp [intOf];omega
    .have HT:Hid (iQ (A.take (k+1))=d):=(by rw [Hid,HS.out,if_pos (by omega)]);clear J;go_wp2
     go_roundw
     case rel=>exact ⟨k+1,by omega,by go_num,by rw [HT.out],trivial⟩
     case measure=>simp [intOf];omega
   .have e1:(c==46)=false:=by simp [J]
    have HT:Hid (Value.int .i64 d=.int .i64 (iQ (A.take (k+1)))):=by
     rw [Hid,HS.out]
     by_cases hd:0<=d
     .rw [if_pos hd]
     .rw [if_neg hd,if_neg J,show d = -1 by omega]
    go_wp2
    go_roundw
    case rel=>exact ⟨k+1,by omega,by go_num,HT.out,trivial⟩
    case measure=>simp [intOf];omega
  .have b0:A.take k=A:=take_of_length_le (by omega);rw [b0];clear b0;have b2:=aB (fun h=>aHl (zs:=A) h)
   by_cases hd:iQ A<0
   .have HM:Hid (cQ A=wpS false A []):=b2.out hd;have a8:=(aEO hd).2.2;have H:=aB (bZ A w hb hl);have I:=aB (bZ [] w (fun z E=>by simp at E) (by simp));rw [a8];clear hd a8;cases M:aX A
    .have F:Hid (cQ A=false):=(by rw [Hid,HM.out];unfold wpS;simp [M]);rw [M] at H
     go_wp2_with fail
     refine (H.out).mono ?_;rintro e G ⟨rfl,rfl⟩;go_wp2;go_ret;exact ⟨by rw [F.out];rfl,rfl⟩
    .cases S:aX []
     .have F:Hid (cQ A=false):=(by rw [Hid,HM.out];unfold wpS;simp [M,S]);rw [M] at H;rw [S] at I
      go_wp2_with fail
      refine (H.out).mono ?_;rintro e G ⟨rfl,rfl⟩
      go_wp2_with fail
      refine (I.out).mono ?_;rintro e G ⟨rfl,rfl⟩;go_wp2;go_ret;exact ⟨by rw [F.out];rfl,rfl⟩
     .have Z:Hid (cQ A=if A=[] then false&&decide (([]:List Int)≠[]) else (decide (A=[48])||decide ((A)[0]?.getD 0≠48))):=(by rw [Hid,HM.out];unfold wpS;simp [M,S]);rw [M] at H;rw [S] at I
      by_cases E:A=[]
      .have e0:(strOfNums (A)).toList.isEmpty=true:=(by rw [dS,decide_eq_true E]);have F:Hid (cQ A=false):=(by rw [Hid,Z.out,if_pos E];rfl);clear E
       go_wp2_with fail
       refine (H.out).mono ?_;rintro e G ⟨rfl,rfl⟩
       go_wp2_with fail
       refine (I.out).mono ?_;rintro e G ⟨rfl,rfl⟩;go_wp2;go_ret;exact ⟨by rw [F.out];rfl,rfl⟩
      .have e0:(strOfNums (A)).toList.isEmpty=false:=(by rw [dS,decide_eq_false E]);have O:=fZ hb E w;have Y:=(Bys.get hb 0).1;have e1:=aFO hb;have e2:=aGU hb
       by_cases D:A=[48]
       .rw [decide_eq_true D] at e1;have e3:(strOfNums (A)).toList=[48]:=(by rw [e2];exact D);have F:Hid (cQ A=true):=(by rw [Hid,Z.out,if_neg E,decide_eq_true D];rfl);clear E D e2
        go_wp2_with fail
        refine (H.out).mono ?_;rintro e G ⟨rfl,rfl⟩
        go_wp2_with fail
        refine (I.out).mono ?_;rintro e G ⟨rfl,rfl⟩;go_wp2;go_ret;exact ⟨by rw [F.out];rfl,rfl⟩
       .rw [decide_eq_false D] at e1;have e3:¬ (strOfNums (A)).toList=[48]:=(by rw [e2];exact D);have F:Hid (cQ A=decide ((A)[0]?.getD 0≠48)):=(by rw [Hid,Z.out,if_neg E,decide_eq_false D];rfl);clear E D e2 Z;generalize (A)[0]?.getD 0=c0 at O F Y;have HC:Hid ((c0 != 48)=decide (c0≠48)):=by rw [Hid,Bool.eq_iff_iff];simp
        go_wp2_with fail
        refine (H.out).mono ?_;rintro e G ⟨rfl,rfl⟩
        go_wp2_with fail
        refine (I.out).mono ?_;rintro e G ⟨rfl,rfl⟩;go_wp2;go_ret;exact ⟨by rw [F.out,<- HC.out];rfl,rfl⟩
   .obtain ⟨p,hp,b8,t1,t2⟩:=aJN hd;have HM:Hid (cQ A=wpS true (A.take p) (A.drop (p+1))):=aHy b8 t1 t2;rw [hp];clear hd t1 t2 hp;have N:Bys (A.take p):=fun z E=>hb z (mem_of_mem_take E);have b7:Bys (A.drop (p+1)):=fun z E=>hb z (mem_of_mem_drop E);have x1:(strOfNums A).extract 0 p=strOfNums (A.take p):=by rw [lM];simp
    have x2:(strOfNums A).extract (p+1) A.length=strOfNums (A.drop (p+1)):=by
     rw [lM,take_of_length_le (by rw [length_drop];omega)]
    have H:=aB (bZ (A.take p) w N (by rw [length_take];omega));have I:=aB (bZ (A.drop (p+1)) w b7 (by rw [length_drop];omega));cases M:aX (A.take p)
    .have F:Hid (cQ A=false):=(by rw [Hid,HM.out];unfold wpS;simp [M]);rw [M] at H
     go_wp2_with fail
     refine (H.out).mono ?_;rintro e G ⟨rfl,rfl⟩;go_wp2;go_ret;exact ⟨by rw [F.out];rfl,rfl⟩
    .cases S:aX (A.drop (p+1))
     .have F:Hid (cQ A=false):=(by rw [Hid,HM.out];unfold wpS;simp [M,S]);rw [M] at H;rw [S] at I
      go_wp2_with fail
      refine (H.out).mono ?_;rintro e G ⟨rfl,rfl⟩
      go_wp2_with fail
      refine (I.out).mono ?_;rintro e G ⟨rfl,rfl⟩;go_wp2;go_ret;exact ⟨by rw [F.out];rfl,rfl⟩
     .have Z:Hid (cQ A=if (A.take p)=[] then true&&decide (A.drop (p+1)≠[]) else (decide (A.take p=[48])||decide ((A.take p)[0]?.getD 0≠48))):=(by rw [Hid,HM.out];unfold wpS;simp [M,S]);rw [M] at H;rw [S] at I
      by_cases E:(A.take p)=[]
      .have e0:(strOfNums (A.take p)).toList.isEmpty=true:=(by rw [dS,decide_eq_true E]);have F:Hid (cQ A = !(strOfNums (A.drop (p+1))).toList.isEmpty):=(by rw [Hid,Z.out,if_pos E,dS];simp only [ne_eq,decide_not,Bool.true_and]);clear E
       go_wp2_with fail
       refine (H.out).mono ?_;rintro e G ⟨rfl,rfl⟩
       go_wp2_with fail
       refine (I.out).mono ?_;rintro e G ⟨rfl,rfl⟩;go_wp2;go_ret;exact ⟨by rw [F.out];rfl,rfl⟩
      .have e0:(strOfNums (A.take p)).toList.isEmpty=false:=(by rw [dS,decide_eq_false E]);have O:=fZ N E w;have Y:=(Bys.get N 0).1;have e1:=aFO N;have e2:=aGU N
       by_cases D:A.take p=[48]
       .rw [decide_eq_true D] at e1;have e3:(strOfNums (A.take p)).toList=[48]:=(by rw [e2];exact D);have F:Hid (cQ A=true):=(by rw [Hid,Z.out,if_neg E,decide_eq_true D];rfl);clear E D e2
        go_wp2_with fail
        refine (H.out).mono ?_;rintro e G ⟨rfl,rfl⟩
        go_wp2_with fail
        refine (I.out).mono ?_;rintro e G ⟨rfl,rfl⟩;go_wp2;go_ret;exact ⟨by rw [F.out];rfl,rfl⟩
       .rw [decide_eq_false D] at e1;have e3:¬ (strOfNums (A.take p)).toList=[48]:=(by rw [e2];exact D);have F:Hid (cQ A=decide ((A.take p)[0]?.getD 0≠48)):=(by rw [Hid,Z.out,if_neg E,decide_eq_false D];rfl);clear E D e2 Z;generalize (A.take p)[0]?.getD 0=c0 at O F Y;have HC:Hid ((c0 != 48)=decide (c0≠48)):=by rw [Hid,Bool.eq_iff_iff];simp
        go_wp2_with fail
        refine (H.out).mono ?_;rintro e G ⟨rfl,rfl⟩
        go_wp2_with fail
        refine (I.out).mono ?_;rintro e G ⟨rfl,rfl⟩;go_wp2;go_ret;exact ⟨by rw [F.out,<- HC.out];rfl,rfl⟩
end
theorem Tx.wide {B} {E:Nat} {w F G} (h:Tx B w F G) (Z:B<=E):Tx E w F G:=by
 obtain ⟨⟨a,A,I,Y⟩,N,S,J⟩:=h;refine ⟨⟨a,A,I,fun O=>?_⟩,N,S,J⟩;obtain ⟨b,D,M,hb,H⟩:=Y O;exact ⟨b,D,M,by omega,H⟩
theorem aJC (w:World) (h:Value) (n:Nat):Sc w.heap.size (w.alloc (.cells #[h,.int .i64 n] 215)) h n:=
 ⟨by simp [go_sem],by simp [go_sem],fun j=>by simp [go_sem]⟩
theorem uC {a:World} {b c} {k:Nat} (h:a.grownBy b none) (A:a.heap.size<=k) (g:b.grownBy c (some k)):a.grownBy c none:=bC h g (fun j e=>by cases e;exact A)
theorem aEv (G n A E w) (J:Tab w) (h:Sc G w A n) (H:Tx G w A E) (O:n<=E.length) :
  Calls prog 182 #[.pointer (some ⟨G,0,none⟩)] w fun e Z=>e=.returned (.int .i32 (nxP E n))/\w.grownBy Z none:=by
 have F:=h.lt;have h0:=h.c0;have h1:=h.c1;have D:=grownBy_alloc w (.cells #[A,.int .i64 n] 215) none;have I:=aEw w.heap.size n A E _ (J.K D) (aJC w A n) ((H.wide (Nat.le_of_lt F)).K D) O;obtain ⟨a,Y,rfl,_⟩:=H.rd;have N:=aB D;have M:=aB I;clear h H J I D
 go_enter func182,ntmps182
 go_wp2_with (go_at_call 183;refine M.out.mono ?_;rintro e w1 ⟨rfl,_,S⟩)
 go_ret;exact ⟨rfl,uC N.out (Nat.le_refl _) S⟩
end Go.Proofs.YtckcaefnokeodaaGreatDoor
