import Derived.Test.YtmfehflibkokbaaGreatDoorMAB
import Derived.Test.YtmfehflibkokbaaGreatDoorMAI
import Derived.Test.YtmfehflibkokbaaGreatDoorMAU
set_option maxHeartbeats 16000000
set_option maxRecDepth 100000
namespace Go.Proofs.YtmfehflibkokbaaGreatDoor
open Go.Proofs.Tryz
open Go.RowKit
def jF (c:Int):Int:=if aK c then c - 48 else if 97<=c/\c<=102 then c - 97+10 else if 65<=c/\c<=70 then c - 65+10 else -1
def eE (c:Int):Bool:=decide (0<=jF c)
def isE (c:Int):Bool:=decide (c=101\/c=69)
def aAy (c:Int):Bool:=decide (c=43\/c=45)
def aV (s:List Int):Bool:=s.all aK
def gH:List Int->Bool
 | []=>false
 | c::_=>aK c
def xR:List Int->Bool
 | []=>false
 | c::_=>eE c
def strip:List Int->List Int
 | []=>[]
 | c::r=>if aAy c then r else c::r
def cJ (s:List Int):Bool:=
 let w:=s.takeWhile (· != 46)
 let p:=(s.dropWhile (· != 46)).tail
 if !aV w || !aV p then false
 else if w=[] then decide (w.length<s.length)&&decide (p≠[])
 else decide (w=[48])||decide (w[0]?.getD 0≠48)
def oA (s:List Int):Bool:=decide (strip s≠[])&&aV (strip s)
def nP:List Int:=[73,110,102,105,110,105,116,121]
def nan:List Int:=[78,97,78]
def isX (c:Int):Bool:=decide (c=120\/c=88)
def dI (s:List Int):Bool:=
 if s=nP\/s=nan then true
 else if 2<s.length/\s[0]?.getD 0=48/\isX (s[1]?.getD 0)=true then (s.drop 2).all eE
 else if s.any isE then cJ (s.takeWhile (fun c=>!isE c))&&oA (s.dropWhile (fun c=>!isE c)).tail
 else cJ s
def nL (s:List Int):Bool:=dI (strip s)
def dF (s:List Int):Bool × List Int:=
 let a:Bool × List Int:=match s with
  | []=>(false,[])
  | c::r=>if c=48 then (true,r) else (aK c,(c::r).dropWhile aK)
 match a.2 with
 | []=>(a.1,[])
 | c::r=>if c=46 then (a.1||gH r,r.dropWhile aK) else (a.1,c::r)
def iK (a:Bool × List Int):Bool × List Int:=
 if !a.1 then (false,a.2)
 else match a.2 with
  | []=>(true,[])
  | c::r=>if isE c then (gH (strip r),(strip r).dropWhile aK) else (true,c::r)
def gF (s:List Int):Bool × List Int:=iK (dF s)
def kI (s:List Int):Bool × List Int:=
 if nP <+: s then (true,s.drop 8)
 else if nan <+: s then (true,s.drop 3)
 else match s with
  | c::x::r=>if c=48/\isX x=true then (xR r,r.dropWhile eE) else gF s
  | _=>gF s
def dE (s:List Int):Bool:=(kI (strip s)).1&&decide ((kI (strip s)).2=[])
theorem cH (p:Int->Bool) (s:List Int):s.dropWhile p=[] ↔ s.all p=true:=by
 induction s with
 | nil=>simp
 | cons c s ih=>
   rw [List.dropWhile_cons]
   by_cases h:p c=true
   ·simp [h,ih]
   ·simp [h]
theorem tU (s:List Int) (h:aV s=true) (y:s≠[]):gH s=true:=by
 cases s with
 | nil=>exact absurd rfl y
 | cons c r=>simp [aV] at h;exact h.1
theorem aF6 {p:Int->Bool} {s:List Int} {c:Int} {r:List Int} (h:s.dropWhile p=c::r):p c=false/\c∈s:=by
 induction s with
 | nil=>simp at h
 | cons x s ih=>
   rw [List.dropWhile_cons] at h
   by_cases y:p x=true
   ·rw [if_pos y] at h;exact ⟨(ih h).1,List.mem_cons_of_mem _ (ih h).2⟩
   ·rw [if_neg y] at h;cases h;exact ⟨by simpa using y,List.mem_cons_self⟩
theorem aFM {p:Int->Bool} {s:List Int} (h:∀ c∈s,p c=true):s.takeWhile p=s/\s.dropWhile p=[]:=by
 have:s.dropWhile p=[]:=(cH p s).2 (by simpa using h);exact ⟨by have:=List.takeWhile_append_dropWhile (p:=p) (l:=s);simp_all,this⟩
theorem oQ {p:Int->Bool} {a b:List Int} {c:Int} (h:∀ x∈a,p x=true) (D:p c=false):(a++c::b).takeWhile p=a/\(a++c::b).dropWhile p=c::b:=by
 induction a with
 | nil=>simp [D]
 | cons x a ih=>
   have E:=h x List.mem_cons_self;have:=ih (fun y A=>h y (List.mem_cons_of_mem _ A));simp [E,this.1,this.2]
theorem nR (p:Int->Bool) (s:List Int):(∀ c∈s,p c=true)\/∃ a c b,s=a++c::b/\(∀ x∈a,p x=true)/\p c=false:=by
 induction s with
 | nil=>left;simp
 | cons x s ih=>
   by_cases E:p x=true
   ·rcases ih with h | ⟨a,c,b,rfl,G,J⟩
    ·left;intro c A;rcases List.mem_cons.1 A with rfl | A
     ·exact E
     ·exact h c A
    ·right;refine ⟨x::a,c,b,rfl,fun y D=>?_,J⟩;rcases List.mem_cons.1 D with rfl | D
     ·exact E
     ·exact G y D
   ·right;exact ⟨[],x,s,rfl,by simp,by simpa using E⟩
theorem yB (s:List Int):cJ s=((dF s).1&&decide ((dF s).2=[])):=by
 rcases nR (fun c=>c != 46) s with h | ⟨w,c,p,rfl,U,Y⟩
 ·have M:=aFM h;simp only [cJ,M.1,M.2,List.tail_nil];cases s with
  | nil=>simp [dF,aV]
  | cons c r=>
    by_cases D:c=48
    ·subst D;cases r with
     | nil=>simp [dF,aV,aK]
     | cons x r=>
       have N:x≠46:=(by have:=h x (by simp);simpa using this);simp [dF,N]
    ·have hD:∀ x,(c::r).dropWhile aK=x->(match x with | []=>(aK c,([]:List Int)) | y::t=>if y=46 then (aK c||gH t,t.dropWhile aK) else (aK c,y::t))=(aK c,x):=by
      intro x N;cases x with
      | nil=>rfl
      | cons y t=>
        have:=h y (aF6 N).2;have S:y≠46:=(by simpa using this);simp [S]
     have E:dF (c::r)=(aK c,(c::r).dropWhile aK):=by
      simp only [dF,if_neg D];exact hD _ rfl
     rw [E]
     by_cases A:aV (c::r)=true
     ·have:(c::r).dropWhile aK=[]:=(cH _ _).2 A;have J:aK c=true:=tU _ A (by simp);rw [A,this,J];simp [D,aV]
     ·have:(c::r).dropWhile aK≠[]:=fun e=>A ((cH _ _).1 e);simp only [A,this];simp
 ·have X:c=46:=(by simpa using Y);subst X;have M:=oQ (b:=p) U Y;simp only [cJ,M.1,M.2,List.tail_cons];cases w with
  | nil=>
    have E:dF ([]++46::p)=(gH p,p.dropWhile aK):=(by simp [dF,show aK 46=false by decide]);rw [E,show aV []=true from rfl]
    by_cases A:aV p=true
    ·rw [(cH _ _).2 A,A]
     by_cases G:p=[]
     ·simp [G,gH]
     ·simp [G,tU _ A G]
    ·have:p.dropWhile aK≠[]:=fun e=>A ((cH _ _).1 e);simp [A,this]
  | cons c r=>
    by_cases D:c=48
    ·subst D;cases r with
     | nil=>
       have E:dF ([48]++46::p)=(true,p.dropWhile aK):=(by simp [dF]);rw [E,show aV [48]=true from by decide]
       by_cases A:aV p=true
       ·rw [(cH _ _).2 A,A];simp
       ·have:p.dropWhile aK≠[]:=fun e=>A ((cH _ _).1 e);simp [A,this]
     | cons x r=>
       have N:x≠46:=(by have:=U x (by simp);simpa using this);simp [dF,N]
    ·by_cases A:aV (c::r)=true
     ·have O:=(oQ (p:=aK) (a:=c::r) (c:=46) (b:=p) (by simpa [aV] using A) (by decide)).2;have J:aK c=true:=tU _ A (by simp)
      have E:dF ((c::r)++46::p)=(true,p.dropWhile aK):=by
       simp only [dF,List.cons_append,if_neg D];rw [show c::(r++46::p)=(c::r)++46::p from rfl,O];simp [J]
      rw [E]
      by_cases G:aV p=true
      ·have:=(cH _ _).2 G;simp [A,G,this,D]
      ·have:p.dropWhile aK≠[]:=fun e=>G ((cH _ _).1 e);simp [A,G,this]
     ·rcases nR aK (c::r) with h | ⟨a,y,b,Z,h1,h2⟩
      ·exact absurd (by simpa [aV] using h) A
      ·have O:=(oQ (p:=aK) (a:=a) (c:=y) (b:=b++46::p) h1 h2).2;have S:y≠46:=by have:=U y (by rw [Z];simp);simpa using this
       have E:dF ((c::r)++46::p)=(aK c,y::(b++46::p)):=by
        simp only [dF,List.cons_append,if_neg D];rw [show c::(r++46::p)=(c::r)++46::p from rfl,Z,List.append_assoc,List.cons_append,O];simp [S]
       rw [E];simp [A]
theorem aD0 (c:Int) (r:List Int) (h:aK c=false) (D:c≠46):cJ (c::r)=false:=by
 have y:c≠48:=fun e=>by rw [e] at h;exact absurd h (by decide)
 have A:dF (c::r)=(false,c::r):=(by simp [dF,y,h,D]);rw [yB,A];rfl
theorem aEE {e:Int} (y:aK e=false) (s x:List Int):(s++e::x).dropWhile aK=s.dropWhile aK++e::x:=by
 induction s with
 | nil=>simp [y]
 | cons c s ih=>
   by_cases h:aK c=true
   ·simp [h,ih]
   ·simp [h]
theorem aLd {e:Int} (h:aK e=false) (s x:List Int):gH (s++e::x)=gH s:=by
 cases s with
 | nil=>simp [gH,h]
 | cons c s=>rfl
theorem aIM {e:Int} (M:isE e=true) (m x:List Int):dF (m++e::x)=((dF m).1,(dF m).2++e::x):=by
 have E:e=101\/e=69:=(by simpa [isE] using M);have A:aK e=false:=(by rcases E with rfl | rfl<;>decide);have h:e≠46:=(by omega);have G:e≠48:=(by omega);cases m with
 | nil=>simp [dF,G,A,h]
 | cons c r=>
   by_cases J:c=48
   ·subst J;cases r with
    | nil=>simp [dF,h]
    | cons y t=>
      by_cases D:y=46
      ·simp [dF,D,aEE A]
      ·simp [dF,D]
   ·have N:=aEE A (c::r) x;simp only [dF,List.cons_append,if_neg J];rw [show c::(r++e::x)=(c::r)++e::x from rfl,N];cases (c::r).dropWhile aK with
    | nil=>simp [h]
    | cons y t=>
      by_cases D:y=46
      ·simp [D,aEE A,aLd A]
      ·simp [D]
theorem aDo (s:List Int):∀ y∈(dF s).2,y∈s:=by
 have G:∀ (t:List Int),∀ y∈t.dropWhile aK,y∈t:=fun t y E=>(List.dropWhile_sublist aK).subset E;cases s with
 | nil=>simp [dF]
 | cons c r=>
   by_cases M:c=48
   ·subst M;cases r with
    | nil=>simp [dF]
    | cons y t=>
      intro z A
      by_cases E:y=46
      ·simp only [dF,E,if_true] at A;have:=G t z A;simp [this]
      ·simp only [dF,if_neg E,if_true] at A;exact List.mem_cons_of_mem _ A
   ·intro z A;simp only [dF,if_neg M] at A;cases h:(c::r).dropWhile aK with
    | nil=>rw [h] at A;simp at A
    | cons y t=>
      rw [h] at A;have D:∀ N∈y::t,N∈c::r:=fun N J=>G _ _ (by rw [h];exact J)
      by_cases E:y=46
      ·simp only [E,if_true] at A;exact D z (List.mem_cons_of_mem _ (G t z A))
      ·simp only [if_neg E] at A;exact D z A
theorem aLS (x:List Int):oA x=(gH (strip x)&&decide ((strip x).dropWhile aK=[])):=by
 unfold oA
 by_cases h:aV (strip x)=true
 ·rw [(cH _ _).2 h,h]
  by_cases y:strip x=[]
  ·simp [y,gH]
  ·simp [y,tU _ h y]
 ·have:(strip x).dropWhile aK≠[]:=fun e=>h ((cH _ _).1 e);simp [h,this]
theorem aKJ:∀ a:Bool × List Int,(∀ y∈a.2,isE y=false)->(a.1&&decide (a.2=[]))=((iK a).1&&decide ((iK a).2=[]))
 | (false,r),_=>by simp [iK]
 | (true,[]),_=>by simp [iK]
 | (true,c::r),h=>by simp [iK,h c (by simp)]
theorem aJg {e:Int} (A:isE e=true):∀ (a:Bool × List Int),(∀ y∈a.2,isE y=false)->∀ x:List Int,(a.1&&decide (a.2=[])&&(gH (strip x)&&decide ((strip x).dropWhile aK=[])))=((iK (a.1,a.2++e::x)).1&&decide ((iK (a.1,a.2++e::x)).2=[]))
 | (false,r),_,x=>by simp [iK]
 | (true,[]),_,x=>by simp [iK,A]
 | (true,c::r),h,x=>by simp [iK,h c (by simp)]
theorem aKV (s:List Int):(if s.any isE then cJ (s.takeWhile (fun c=>!isE c))&&oA (s.dropWhile (fun c=>!isE c)).tail else cJ s)=((gF s).1&&decide ((gF s).2=[])):=by
 rcases nR (fun c=>!isE c) s with h | ⟨m,e,x,rfl,M,J⟩
 ·have A:s.any isE=false:=(by simpa using h);rw [A,if_neg (by simp),yB];exact aKJ _ (fun y E=>by simpa using h y (aDo s y E))
 ·have D:isE e=true:=(by simpa using J);have A:(m++e::x).any isE=true:=(by simp [D]);have G:=oQ (p:=fun c=>!isE c) (a:=m) (c:=e) (b:=x) M J;rw [A,if_pos rfl,G.1,G.2,List.tail_cons,yB,aLS];rw [gF,aIM D];exact aJg D _ (fun y E=>by simpa using M y (aDo m y E)) x
theorem aFY (c:Int) (r:List Int) (h:aK c=false) (A:c≠46) (G:isE c=false) (D:c::r≠nP) (E:c::r≠nan):dI (c::r)=false:=by
 have y:c≠48:=fun e=>by rw [e] at h;exact absurd h (by decide)
 unfold dI;rw [if_neg (by simp [D,E]),if_neg (by simp [y])];have J:(c::r).takeWhile (fun c=>!isE c)=c::r.takeWhile (fun c=>!isE c):=(by simp [G]);rw [J,aD0 c _ h A,aD0 c _ h A];simp
theorem aK9 (s:List Int):dI s=((kI s).1&&decide ((kI s).2=[])):=by
 by_cases G:nP <+: s
 ·obtain ⟨t,rfl⟩:=G
  have A:kI (nP++t)=(true,t):=by
   unfold kI;rw [if_pos (List.prefix_append _ _)];rfl
  rw [A]
  by_cases D:t=[]
  ·subst D;simp [dI]
  ·rw [show nP++t=73::([110,102,105,110,105,116,121]++t) from rfl,aFY 73 _ (by decide) (by decide) (by decide) (by simp [nP,D]) (by simp [nan])];simp [D]
 ·by_cases J:nan <+: s
  ·obtain ⟨t,rfl⟩:=J
   have A:kI (nan++t)=(true,t):=by
    unfold kI;rw [if_neg G,if_pos (List.prefix_append _ _)];rfl
   rw [A]
   by_cases D:t=[]
   ·subst D;simp [dI]
   ·rw [show nan++t=78::([97,78]++t) from rfl,aFY 78 _ (by decide) (by decide) (by decide) (by simp [nP]) (by simp [nan,D])];simp [D]
  ·have S:¬ (s=nP\/s=nan):=by
    rintro (rfl | rfl)
    ·exact G (List.prefix_refl _)
    ·exact J (List.prefix_refl _)
   by_cases y:∃ x r,s=48::x::r/\isX x=true
   ·obtain ⟨x,r,rfl,y⟩:=y
    have A:kI (48::x::r)=(xR r,r.dropWhile eE):=by
     unfold kI;rw [if_neg G,if_neg J];simp [y]
    rw [A];unfold dI;rw [if_neg S];have N:x=120\/x=88:=(by simpa [isX] using y);cases r with
    | nil=>
      rw [if_neg (by simp),yB];clear G J S A y;rcases N with rfl | rfl<;>decide
    | cons h r=>
      rw [if_pos (by simp [y])]
      by_cases E:(h::r).all eE=true
      ·rw [(cH _ _).2 E];simp only [List.drop_succ_cons,List.drop_zero,E];simp at E;simp [xR,E.1]
      ·have:(h::r).dropWhile eE≠[]:=fun e=>E ((cH _ _).1 e);simp only [List.drop_succ_cons,List.drop_zero,E,this];simp
   ·have A:kI s=gF s:=by
     unfold kI;rw [if_neg G,if_neg J]
     match s,y with
     | [],_=>rfl
     | [c],_=>rfl
     | c::x::r,y=>
       simp only;rw [if_neg (fun h=>y ⟨x,r,by rw [h.1],h.2⟩)]
    rw [A,<- aKV];unfold dI;rw [if_neg S,if_neg];rintro ⟨U,M,O⟩
    match s,y,U,M,O with
    | c::x::r,y,U,M,O=>exact y ⟨x,r,by simp at M;rw [M],by simpa using O⟩
theorem aKZ (s:List Int):nL s=dE s:=aK9 _
end Go.Proofs.YtmfehflibkokbaaGreatDoor
namespace Go.Proofs.YtmfehflibkokbaaGreatDoor
open Go.Proofs.Tryz
section
variable {P:Program} {ops:Array Oper} {Q:Exit->Act->World->Prop} {md:Region.Mode} {I:World->Prop} {ex:Nat->Bool}
end
end Go.Proofs.YtmfehflibkokbaaGreatDoor
namespace Go.Proofs.YtmfehflibkokbaaGreatDoor
open Go.Proofs.Tryz
open Go.RowKit
def lnE (p:Int):Bool:=decide (p=10\/p=13\/p=8232\/p=8233)
theorem aAB (p:Int) (w:World):Calls prog 105 #[.int .i64 p] w fun e w'=>e=.returned (.bool (lnE p))/\w=w':=by
 by_cases A:p=10
 ·subst A
  go_enter func105,ntmps105
  go_wp2;go_ret;exact ⟨rfl,rfl⟩
 ·by_cases D:p=13
  ·subst D
   go_enter func105,ntmps105
   go_wp2;go_ret;exact ⟨rfl,rfl⟩
  ·by_cases y:p=8232
   ·subst y
    go_enter func105,ntmps105
    go_wp2;go_ret;exact ⟨rfl,rfl⟩
   ·by_cases h:p=8233
    ·subst h
     go_enter func105,ntmps105
     go_wp2;go_ret;exact ⟨rfl,rfl⟩
    ·have E:Hid (lnE p=false):=(by unfold Hid lnE;simp [A,D,y,h]);have M:(p==10)=false:=(by simpa using A);have N:(p==13)=false:=(by simpa using D);have G:(p==8232)=false:=(by simpa using y);have J:(p==8233)=false:=by simpa using h
     go_enter func105,ntmps105
     go_wp2;go_ret;exact ⟨by rw [E.out];first | rfl | simp [h],rfl⟩
def cAt (b:Bool) (ps:List Int) (i:Nat):Bool:=
 !(lnE (ps[i]?.getD 0)&&(!decide (ps[i]?.getD 0=10) || !b)) && !(b&&(decide (0<i)&&(decide (ps[i]?.getD 0=47)&&decide (ps[i - 1]?.getD 0=42))))
def fO (c:Cm):Bool:=decide ((eS c.t).2.1=0)&&(List.range (eS c.t).1.length).all (cAt c.b (eS c.t).1)
theorem xK (tv:Value) (c:Cm) (w:World) (hv:RdB w.heap.size w tv c.t) (hs:Sl tv c.t.length) (M:Bys c.t) (hn:c.t.length<=1048576) :
  Calls prog 66 #[.agg #[.bool c.b,tv]] w fun e w'=>e=.returned (.bool (fO c))/\w.grownBy w' none:=by
 have HD:=aB (fun (w':World) (g:w.grownBy w' none)=>fK tv c.t w' ((hv.K g).wideC g.size) M hn);have c3:=aFp c.t.length c.t;obtain ⟨a,cap,c6,_,_⟩:=id hs;subst c6;clear hv hs
 go_enter func66,ntmps66
 go_wp2_with fail
 refine (HD.out _ gWA).mono ?_;rintro e w1 ⟨v1,rfl,o1,g1⟩;have N:w1.cell? ⟨w.heap.size,0,none⟩=some (.bool c.b):=g1.cell (by simp [go_sem]) (by simp);have G1:Hid (w.grownBy w1 none):=aA gWA g1;obtain ⟨b1,d6,b9,b8,f3⟩:=o1.sl;have R1:=aB o1.rd;subst b9;clear o1 g1
 by_cases hz:(eS c.t).2.1=0
 ·have c2:((eS c.t).2.1==0)=true:=(by simpa using hz);rw [hz];have HZ:=aB hz
  have c8:(eS c.t).1.length<=1048576:=by
   unfold eS
   split
   ·simp only;omega
   ·simp
  obtain ⟨ps,b4⟩:∃ ps,ps=(eS c.t).1:=⟨_,rfl⟩;have HP:=aB b4;rw [<- b4] at R1 b8 c8 ⊢;clear c2 hz b4 c3;go_wp2
  go_loopw [6] (fun i wr=>∃ (k:Nat),k<=ps.length/\i=.int .i64 k/\Hid ((List.range k).all (cAt c.b ps)=true)/\w1.grownBy wr none) (fun i _=>ps.length - (intOf i).toNat)
  case atStart=>exact ⟨0,Nat.zero_le _,rfl,by simp [Hid],World.grownBy.refl _ _⟩
  case round=>
   obtain ⟨k,hk,rfl,HA,Z⟩:=hrel;have R1:=aB (R1.out.K Z);have N:=Z.cell N (by simp);have G1:Hid (w.grownBy wr none):=aA G1.out Z;have U:=aB Z;clear Z
   by_cases a7:k<ps.length
   ·obtain ⟨a',d1,E,J⟩:=R1.out;obtain ⟨b,off,c9,f6,G⟩:=J (fun e=>by rw [e] at a7;simp at a7);have c1:b1=some ⟨b,off,none⟩:=(by simp only [Value.slice.injEq] at E;rw [E.1];exact c9);subst c1;have Y:=G k a7;have d9:(k:Int)<ps.length:=(by omega);have S:=aB (fun w=>aAB (ps[k]?.getD 0) w)
    have A:cAt c.b ps k=false->Hid (fO c=false):=fun h=>by
     unfold Hid fO;rw [<- HP.out,Bool.and_eq_false_iff];right;rw [List.all_eq_false];exact ⟨k,by simpa using a7,by rw [h];simp⟩
    have y:cAt c.b ps k=true->Hid ((List.range (k+1)).all (cAt c.b ps)=true):=fun h=>by
     unfold Hid;rw [List.range_succ,List.all_append,HA.out];simp [h]
    by_cases X:lnE (ps[k]?.getD 0)=true
    ·rw [X] at S
     by_cases b0:ps[k]?.getD 0=10
     ·rw [b0] at Y S
      by_cases M:c.b=true
      ·have HN:=y (by unfold cAt;rw [b0,M];simp);rw [M] at N;clear M;clear A y X G J E
       by_cases a8:k=0
       ·subst a8;simp only [Nat.add_zero] at Y
        go_wp2_with fail
        refine (S.out _).mono ?_;rintro e w2 ⟨rfl,rfl⟩;go_wp2
        go_roundw
        case rel=>exact ⟨0+1,by omega,by go_num,HN,U.out⟩
        case measure=>simp [intOf];omega
       ·have c7:(0:Int)<k:=by omega
        go_wp2_with fail
        refine (S.out _).mono ?_;rintro e w2 ⟨rfl,rfl⟩;go_wp2
        go_roundw
        case rel=>exact ⟨k+1,by omega,by go_num,HN,U.out⟩
        case measure=>simp [intOf];omega
      ·have O:c.b=false:=(by simpa using M);have HF:=A (by unfold cAt;rw [b0,O];simp [lnE]);rw [O] at N;clear M O;clear A y X G J E
       go_wp2_with fail
       refine (S.out _).mono ?_;rintro e w2 ⟨rfl,rfl⟩;go_wp2;go_ret;exact ⟨by rw [HF.out];rfl,G1.out⟩
     ·have HF:=A (by unfold cAt;rw [X];simp [b0]);clear A y X G J E;generalize ps[k]?.getD 0=p at *
      go_wp2_with fail
      refine (S.out _).mono ?_;rintro e w2 ⟨rfl,rfl⟩;go_wp2;go_ret;exact ⟨by rw [HF.out];rfl,G1.out⟩
    ·have D:lnE (ps[k]?.getD 0)=false:=(by simpa using X);rw [D] at S
     by_cases M:c.b=true
     ·by_cases a8:k=0
      ·have HN:=y (by unfold cAt;rw [D,a8];simp);subst a8;rw [M] at N;clear M;clear A y X D G J E;simp only [Nat.add_zero] at Y;generalize ps[0]?.getD 0=p at *
       go_wp2_with fail
       refine (S.out _).mono ?_;rintro e w2 ⟨rfl,rfl⟩;go_wp2
       go_roundw
       case rel=>exact ⟨0+1,by omega,by go_num,HN,U.out⟩
       case measure=>simp [intOf];omega
      ·have c7:(0:Int)<k:=(by omega);obtain ⟨j,rfl⟩:∃ j,k=j+1:=⟨k - 1,by omega⟩;have b6:=G j (by omega)
       by_cases a4:ps[j+1]?.getD 0=47
       ·by_cases a6:ps[j]?.getD 0=42
        ·have HF:=A (by unfold cAt;rw [D,M,a4];simp [a6]);rw [M] at N;clear M;rw [a4] at Y S;rw [a6] at b6;clear A y X D G J E
         go_wp2_with fail
         refine (S.out _).mono ?_;rintro e w2 ⟨rfl,rfl⟩;go_wp2;go_ret;exact ⟨by rw [HF.out];rfl,G1.out⟩
        ·have HN:=y (by unfold cAt;rw [D];simp [a6]);rw [M] at N;clear M;rw [a4] at Y S;have d3:(ps[j]?.getD 0==42)=false:=(by simpa using a6);clear A y X D G J E;generalize ps[j]?.getD 0=q at *
         go_wp2_with fail
         refine (S.out _).mono ?_;rintro e w2 ⟨rfl,rfl⟩;go_wp2
         go_roundw
         case rel=>exact ⟨j+1+1,by omega,by go_num,HN,U.out⟩
         case measure=>simp [intOf];omega
       ·have HN:=y (by unfold cAt;rw [D];simp [a4]);rw [M] at N;clear M;have d0:(ps[j+1]?.getD 0==47)=false:=(by simpa using a4);clear A y X D G J E b6;generalize ps[j+1]?.getD 0=p at *
        go_wp2_with fail
        refine (S.out _).mono ?_;rintro e w2 ⟨rfl,rfl⟩;go_wp2
        go_roundw
        case rel=>exact ⟨j+1+1,by omega,by go_num,HN,U.out⟩
        case measure=>simp [intOf];omega
     ·have O:c.b=false:=(by simpa using M);have HN:=y (by unfold cAt;rw [D,O];simp);rw [O] at N;clear M O;clear A y X D G J E;generalize ps[k]?.getD 0=p at *
      go_wp2_with fail
      refine (S.out _).mono ?_;rintro e w2 ⟨rfl,rfl⟩;go_wp2
      go_roundw
      case rel=>exact ⟨k+1,by omega,by go_num,HN,U.out⟩
      case measure=>simp [intOf];omega
   ·have HF:Hid (fO c=true):=by
     unfold Hid fO;rw [HZ.out,<- HP.out];have:=HA.out;rw [show k=ps.length by omega] at this;rw [this];rfl
    go_wp2;go_ret;exact ⟨by rw [HF.out];rfl,G1.out⟩
 ·have HF:Hid (fO c=false):=(by unfold Hid fO;simp [hz]);generalize (eS c.t).2.1=z at *;go_wp2;go_ret;exact ⟨by rw [HF.out];rfl,G1.out⟩
theorem nD (v:Value) (zs:List Int) (w:World) (hv:RdI w.heap.size w v zs) (hn:zs.length<=2097152) :
  Calls prog 106 #[v] w fun e w'=>∃ v',e=.returned (.tuple #[v',.int .i64 (fuR zs).2])/\OwI w.heap.size w' v' (fuR zs).1/\w.grownBy w' none:=by
 obtain ⟨i0,hi,c0,b1,b9⟩:=info_parts aBg;obtain ⟨a,cap,rfl,hr⟩:=hv
 go_enter func106,ntmps106
 go_wp2
 go_loop [4] (fun i=>∃ k:Nat,k<=zs.length/\i=.int .i64 k/\(zs.take k).all bZ=true) (fun i=>zs.length - (intOf i).toNat)
 case atStart=>exact ⟨0,Nat.zero_le _,rfl,rfl⟩
 case round=>
  obtain ⟨k,hk,rfl,N⟩:=hrel
  by_cases M:k<zs.length
  ·obtain ⟨b,off,rfl,hb,X⟩:=hr (fun h=>by simp [h] at M);have a5:=X k M;have U:=lE zs bZ k M N;have S:=xU zs bZ k M;generalize zs[k]?.getD 0=p at a5 U S
   by_cases d3:p<0
   ·have Z:Hid (zs.all bZ=false):=S (by simp [bZ];omega);clear U S X hr;go_wp2;go_ret2;exact ⟨_,by rw [rV _ Z.out];rfl,by rw [rV _ Z.out];exact World.ownsRow_nil _ _ _ _,World.grownBy.refl _ _⟩
   ·by_cases c7:65535<p
    ·have Z:Hid (zs.all bZ=false):=S (by simp [bZ];omega);clear U S X hr;go_wp2;go_ret2;exact ⟨_,by rw [rV _ Z.out];rfl,by rw [rV _ Z.out];exact World.ownsRow_nil _ _ _ _,World.grownBy.refl _ _⟩
    ·have b0:=U (by simp [bZ];omega);clear U S X hr;go_wp2
     go_round
     case rel=>exact ⟨k+1,by omega,by go_num,b0⟩
     case measure=>simp [intOf];omega
  ·have Z:Hid (zs.all bZ=true):=by
    unfold Hid;rw [List.take_of_length_le (by omega)] at N;exact N
   clear N;go_wp2
   go_loopw [5,6] (fun v i wr=>∃ (k:Nat) (J:List Int),k<=zs.length/\i=.int .i64 k/\OwI w.heap.size wr v J/\J.length<=k/\J++fu (zs.drop k)=fu zs/\Below w.heap.size w wr)
    (fun _ i _=>zs.length - (intOf i).toNat)
   case atStart=>exact ⟨0,[],Nat.zero_le _,rfl,World.ownsRow_nil _ _ _ _,Nat.le_refl _,by simp,Below.refl _ _⟩
   case round=>
    rename_i hk0 hlt0
    obtain ⟨k,J,hk,rfl,y,c9,hx,E⟩:=hrel
    by_cases M:k<zs.length
    ·obtain ⟨b,off,rfl,hb,X⟩:=hr (fun h=>by simp [h] at M);have a5:wr.cell? ⟨b,off+k,none⟩=some (.int .i64 (zs[k]?.getD 0)):=(E.cell (by exact hb)).trans (X k M);have O:k+1<zs.length->wr.cell? ⟨b,off+(k+1),none⟩=some (.int .i64 (zs[k+1]?.getD 0)):=fun h=>(E.cell (by exact hb)).trans (X (k+1) h);have h1:=aIT zs k M;have h2:=aGX zs k;generalize zs[k]?.getD 0=p at a5 h1 h2;generalize zs[k+1]?.getD 0=x at O h1 h2;clear X hr
     by_cases G:lH p=true/\k+1<zs.length/\lP x=true
     ·obtain ⟨hp,Y,a7⟩:=G;have HE:=aDC hx (h2 Y hp a7);have c3:Hid (J++[oU p x]++fu (zs.drop (k+2))=fu zs):=HE;have b7:=O Y;simp [lH] at hp;simp [lP] at a7;obtain ⟨c7,d5⟩:=hp;obtain ⟨d9,d6⟩:=a7;clear h1 h2 HE O hx;have b4:oU p x=65536+(p - 55296)*1024+x - 56320:=(by unfold oU;omega);have HP:Hid (oU p x=65536+(p - 55296)*1024+x - 56320):=b4;clear b4
      go_wp2_with (at_builtin;refine wpList_append_own _ rfl _ _ 33 rfl w.heap.size 3 i0 (.int .i64 0) 1 8 underlying33 hi c0 b1 b9 rfl (by decide) _ _ _ rfl (World.ownsRow.alloc y _) ⟨wr.heap.size,0,none⟩ 1 1 [.int .i64 (65536+(p - 55296)*1024+x - 56320)] rfl rfl (cell_one_new _ _ _) (by intro u hu;simp at hu;subst hu;rfl) (by unfold maxLen;omega) (by omega) (by have:=E.size;simp;omega) ?_;intro v' w1 A D _)
      have R:=eK (xs:=[65536+(p - 55296)*1024+x - 56320]) _ E.size y A (by simp) D;clear A D y;go_wp2
      go_roundw
      case rel=>exact ⟨k+2,J++[65536+(p - 55296)*1024+x - 56320],by omega,by go_num,R.1,by simp;omega,by rw [<- HP.out];exact c3.out,E.trans R.2⟩
      case measure=>simp [intOf];omega
     ·have HE:Hid (J++[p]++fu (zs.drop (k+1))=fu zs):=aCT hx (h1 G)
      have b8:p<55296\/56319<p\/(55296<=p/\p<=56319/\zs.length<=k+1)\/(55296<=p/\p<=56319/\k+1<zs.length/\x<56320)\/(55296<=p/\p<=56319/\k+1<zs.length/\56320<=x/\57343<x):=by
       simp only [lH,lP,decide_eq_true_eq] at G;omega
      clear h1 h2 G hx;rcases b8 with hw | hw | ⟨a9,b2,a4⟩ | ⟨a9,b2,a4,c5⟩ | ⟨a9,b2,a4,c5,d8⟩
      all_goals
       first
        | (have b7:=O a4;clear O)
        | clear O
       go_wp2_with (at_builtin;refine wpList_append_own _ rfl _ _ 33 rfl w.heap.size 3 i0 (.int .i64 0) 1 8 underlying33 hi c0 b1 b9 rfl (by decide) _ _ _ rfl (World.ownsRow.alloc y _) ⟨wr.heap.size,0,none⟩ 1 1 [.int .i64 p] rfl rfl (cell_one_new _ _ _) (by intro u hu;simp at hu;subst hu;rfl) (by unfold maxLen;omega) (by omega) (by have:=E.size;simp;omega) ?_;intro v' w1 A D _)
       have R:=eK (xs:=[p]) _ E.size y A (by simp) D;clear A D y;go_wp2
       go_roundw
       case rel=>exact ⟨k+1,J++[p],by omega,by go_num,R.1,by simp;omega,HE.out,E.trans R.2⟩
       case measure=>simp [intOf];omega
    ·have hE:=aHE (by omega) hx;rw [hE] at y;clear hx hr hE;go_wp2;go_ret2;exact ⟨_,by rw [aCe _ Z.out];rfl,by rw [aCe _ Z.out];exact y,aC E⟩
theorem aGU {α:Type} (f:α->Bool) (y:List α) (k:Nat) (A:k<y.length) (h:(y.take k).all f=true) (D:f y[k]=true):(y.take (k+1)).all f=true:=by
 rw [List.take_add_one,List.getElem?_eq_getElem A,List.all_append,h];simp [D]
theorem aJ6 {α:Type} (f:α->Bool) (h:List α) (k:Nat) (y:k<h.length) (A:f h[k]=false):h.all f=false:=by
 rw [List.all_eq_false];exact ⟨h[k],List.getElem_mem y,by rw [A];simp⟩
def xC (cs:List Cm):Prop:=∀ c∈cs,c.t.length<=1048576/\Bys c.t
theorem kF (v:Value) (h:List Cm) (w:World) (hv:RdC w.heap.size w v h) (hn:h.length<=1048576) (Z:xC h) :
  Calls prog 34 #[v] w fun e w'=>e=.returned (.bool (h.all fO))/\w.grownBy w' none:=by
 obtain ⟨a,cap,S,_⟩:=id hv;have HV:=aB hv;have HO:=aB Z;subst S;clear hv Z
 go_enter func34,ntmps34
 go_wp2
 go_loopw [3] (fun i wr=>∃ k:Nat,k<=h.length/\i=.int .i64 k/\Hid ((h.take k).all fO=true)/\w.grownBy wr none) (fun i _=>h.length - (intOf i).toNat)
 case atStart=>exact ⟨0,Nat.zero_le _,rfl,by simp [Hid],World.grownBy.refl _ _⟩
 case round=>
  obtain ⟨k,hk,rfl,HA,y⟩:=hrel
  by_cases A:k<h.length
  ·obtain ⟨b,off,a4,tv,O,hb,G⟩:=(HV.out.K y).at k A;cases O;have z0:=G.k;have z1:=G.t;obtain ⟨h1,h2⟩:=HO.out h[k] (List.getElem_mem A);have N:=aB (xK tv h[k] wr (G.rd.wideC y.size) G.sl h2 h1);obtain ⟨ta,Y,U,_,_⟩:=G.sl;have M:=aB y;subst U;clear G h2 y;cases E:fO h[k] with
   | true=>
     have HN:=aB (aGU fO h k A HA.out E);rw [E] at N;clear E;generalize h[k]=p at *
     go_wp2_with fail
     refine N.out.mono ?_;rintro e w1 ⟨rfl,J⟩;have D:=aB (aA M.out J);clear J;go_wp2
     go_roundw
     case rel=>exact ⟨k+1,by omega,by go_num,HN,D.out⟩
     case measure=>simp [intOf];omega
   | false=>
     have X:=aB (aJ6 fO h k A E);rw [E] at N;clear E;generalize h[k]=p at *
     go_wp2_with fail
     refine N.out.mono ?_;rintro e w1 ⟨rfl,J⟩;have D:=aB (aA M.out J);clear J;go_wp2;go_ret;exact ⟨by rw [X.out];rfl,D.out⟩
  ·have X:Hid (h.all fO=true):=by
    have:=HA.out;rw [show k=h.length by omega,List.take_length] at this;exact this
   have M:=aB y;go_wp2;go_ret;exact ⟨by rw [X.out];rfl,M.out⟩
theorem sF (v:Value) (zs:List Int) (w:World) (hv:RdI w.heap.size w v zs) (G:zs.length<=2097152) :
  Calls prog 67 #[v] w fun e w'=>e=.returned (.bool (zs.all bZ))/\w.grownBy w' none:=by
 obtain ⟨a,cap,E,_⟩:=id hv;have y:=aB (nD v zs w hv G);subst E;clear hv;cases h:zs.all bZ with
 | true=>
   have A:(fuR zs).2=0:=(by unfold fuR;rw [h];rfl);rw [A] at y
   go_enter func67,ntmps67
   go_wp2_with fail
   refine y.out.mono ?_;rintro e M ⟨N,rfl,J,D⟩;go_wp2;go_ret;exact ⟨rfl,D⟩
 | false=>
   have A:(fuR zs).2=1:=(by unfold fuR;rw [h];rfl);rw [A] at y
   go_enter func67,ntmps67
   go_wp2_with fail
   refine y.out.mono ?_;rintro e M ⟨N,rfl,J,D⟩;go_wp2;go_ret;exact ⟨rfl,D⟩
theorem dX (p:Int) (w:World):Calls prog 139 #[.int .i64 p] w fun e w'=>e=.returned (.bool (aK p))/\w=w':=by
 by_cases A:48<=p
 ·by_cases y:p<=57
  ·have h:Hid (aK p=true):=by simp [Hid,aK,A,y]
   go_enter func139,ntmps139
   go_wp2;go_ret;exact ⟨by rw [h.out];rfl,rfl⟩
  ·have h:Hid (aK p=false):=by simp [Hid,aK];omega
   go_enter func139,ntmps139
   go_wp2;go_ret;exact ⟨by rw [h.out];rfl,rfl⟩
 ·have h:Hid (aK p=false):=by simp [Hid,aK];omega
  go_enter func139,ntmps139
  go_wp2;go_ret;exact ⟨by rw [h.out];rfl,rfl⟩
theorem aBt (p:Int) (w:World):Calls prog 154 #[.int .i64 p] w fun e w'=>e=.returned (.int .i64 (jF p))/\w=w':=by
 cases h:aK p
 ·by_cases A:97<=p
  ·by_cases J:p<=102
   ·have y:Hid (jF p=p - 97+10):=by simp [Hid,jF,h,A,J]
    go_enter func154,ntmps154
    go_wp2_with (go_at_call 139;refine (dX _ _).mono ?_;rintro e w' ⟨rfl,rfl⟩;rw [h])
    go_ret;exact ⟨by rw [y.out];first | rfl | (congr 2;go_num),rfl⟩
   ·have D:¬ p<=70:=(by omega);have y:Hid (jF p = -1):=(by simp [Hid,jF,h,A,J];omega);have E:65<=p:=by omega
    go_enter func154,ntmps154
    go_wp2_with (go_at_call 139;refine (dX _ _).mono ?_;rintro e w' ⟨rfl,rfl⟩;rw [h])
    go_ret;exact ⟨by rw [y.out];rfl,rfl⟩
  ·by_cases D:65<=p
   ·by_cases E:p<=70
    ·have y:Hid (jF p=p - 65+10):=by simp [Hid,jF,h,A,D,E]
     go_enter func154,ntmps154
     go_wp2_with (go_at_call 139;refine (dX _ _).mono ?_;rintro e w' ⟨rfl,rfl⟩;rw [h])
     go_ret;exact ⟨by rw [y.out];first | rfl | (congr 2;go_num),rfl⟩
    ·have y:Hid (jF p = -1):=by simp [Hid,jF,h,A,D,E]
     go_enter func154,ntmps154
     go_wp2_with (go_at_call 139;refine (dX _ _).mono ?_;rintro e w' ⟨rfl,rfl⟩;rw [h])
     go_ret;exact ⟨by rw [y.out];rfl,rfl⟩
   ·have y:Hid (jF p = -1):=by simp [Hid,jF,h,A,D]
    go_enter func154,ntmps154
    go_wp2_with (go_at_call 139;refine (dX _ _).mono ?_;rintro e w' ⟨rfl,rfl⟩;rw [h])
    go_ret;exact ⟨by rw [y.out];rfl,rfl⟩
 ·have y:Hid (jF p=p - 48):=(by simp [Hid,jF,h]);have G:48<=p/\p<=57:=(by simpa [aK] using h);obtain ⟨N,M⟩:=G
  go_enter func154,ntmps154
  go_wp2_with (go_at_call 139;refine (dX _ _).mono ?_;rintro e w' ⟨rfl,rfl⟩;rw [h])
  go_ret;exact ⟨by rw [y.out];first | rfl | (congr 2;go_num),rfl⟩
def nxP (zs:List Int) (n:Nat):Int:=if n<zs.length then fpP (zs.drop n) else -1
def nxS (zs:List Int) (n:Nat):Nat:=if n<zs.length then aL (zs.drop n) else 0
theorem aCo {zs:List Int} {n:Nat} (h:¬ n<zs.length):nxP zs n = -1:=by simp [nxP,h]
theorem aJU {zs:List Int} {n:Nat} (h:¬ n<zs.length):nxS zs n=0:=by simp [nxS,h]
theorem aCA {zs:List Int} {n:Nat} (h:n<zs.length):nxP zs n=fpP (zs.drop n):=by simp [nxP,h]
theorem aEX {zs:List Int} {n:Nat} (h:n<zs.length):nxS zs n=aL (zs.drop n):=by simp [nxS,h]
theorem aLQ (zs:List Int) (n:Nat) (h:n<=zs.length):n+nxS zs n<=zs.length:=by
 unfold nxS
 split
 ·have:=tQ (zs.drop n);rw [List.length_drop] at this;omega
 ·omega
theorem aJJ {zs:List Int} {n:Nat} (h:nxP zs n≠-1):0<nxS zs n/\n<zs.length:=by
 by_cases y:n<zs.length
 ·refine ⟨?_,y⟩;rw [aCA y] at h;rw [aEX y];rcases Nat.eq_zero_or_pos (aL (zs.drop n)) with e | e
  ·exact absurd (eM e) h
  ·exact e
 ·exact absurd (aCo y) h
def skN (P:Int->Bool) (zs:List Int):Nat->Nat->Nat
 | 0,n=>n
 | f+1,n=>if nxP zs n≠-1/\P (nxP zs n)=true then skN P zs f (n+nxS zs n) else n
theorem aHO {P:Int->Bool} {zs:List Int} {f n:Nat} (h:nxP zs n≠-1) (y:P (nxP zs n)=true):skN P zs (f+1) n=skN P zs f (n+nxS zs n):=by
 rw [skN,if_pos ⟨h,y⟩]
theorem aC1 {P:Int->Bool} {zs:List Int} {f n:Nat} (h:nxP zs n = -1\/P (nxP zs n)=false):skN P zs f n=n:=by
 cases f with
 | zero=>rfl
 | succ f=>
   rw [skN,if_neg];rintro ⟨A,y⟩;rcases h with h | h
   ·exact A h
   ·rw [h] at y;cases y
theorem aDc {zs:List Int} (N:Bys zs) {n:Nat} (S:n<zs.length) (h:zs[n]?.getD 0<128):nxP zs n=zs[n]?.getD 0/\nxS zs n=1:=by
 have D:=N.get n;have J:(zs.drop n)[0]?.getD 0=zs[n]?.getD 0:=(by simp [List.getElem?_drop]);have A:1<=(zs.drop n).length:=(by rw [List.length_drop];omega);generalize U:zs.drop n=s at J A;rw [aCA S,aEX S,U,<- J];rw [<- J] at h D
 have G:lv s 1=s[0]?.getD 0:=by
  rw [jL (by omega) (by rw [lC _ h];omega),lC _ h];rfl
 have M:bW (s[0]?.getD 0)=true:=(by simp [bW];omega);have y:cK (s[0]?.getD 0)=1:=(by unfold cK;rw [if_pos M,if_pos h]);have E:hit s 1=true:=(fH G D.1).2 y;have O:aL s=1:=(by unfold aL;rw [if_pos E]);exact ⟨uA (by omega) O G,O⟩
theorem aGt {s:List Int} (h:aL s≠0):hit s (aL s)=true:=by
 unfold aL at h ⊢
 split
 ·assumption
 ·split
  ·assumption
  ·split
   ·assumption
   ·split
    ·assumption
    ·simp_all
theorem aJA {zs:List Int} {n:Nat} (J:n<zs.length) (h:¬ zs[n]?.getD 0<128):nxP zs n = -1\/128<=nxP zs n:=by
 have E:(zs.drop n)[0]?.getD 0=zs[n]?.getD 0:=(by simp [List.getElem?_drop]);rw [aCA J];rw [<- E] at h;generalize zs.drop n=s at h
 by_cases D:aL s=0
 ·exact .inl (eM D)
 ·right;have G:hit s 1=false:=cI (by simp [lead,h]);have y:=aGt D;have M:fpP s=lv s (aL s):=(by simp [fpP,D]);rw [M];have O:aL s≠1:=fun e=>by rw [e,G] at y;cases y
  simp only [hit,Bool.and_eq_true,decide_eq_true_eq,beq_iff_eq] at y;apply Classical.byContradiction;intro N;have A:bW (lv s (aL s))=true:=(by simp [bW];omega);have:=y.2;rw [cK,if_pos A,if_pos (by omega)] at this;omega
def Asc (P:Int->Bool):Prop:=∀ p,P p=true->0<=p/\p<128
theorem aG4 {P:Int->Bool} (G:Asc P) {zs:List Int} (D:Bys zs):∀ (f n:Nat),n<=zs.length->zs.length - n<f->
  zs.drop (skN P zs f n)=(zs.drop n).dropWhile P/\n<=skN P zs f n/\skN P zs f n<=zs.length/\(n<skN P zs f n ↔ (n<zs.length/\P (zs[n]?.getD 0)=true)):=by
 intro f
 induction f with
 | zero=>intro n J X;omega
 | succ f ih=>
   intro n J X
   by_cases A:n<zs.length
   ·have O:=List.drop_eq_getElem_cons A;have S:zs[n]?.getD 0=zs[n]:=by simp [A]
    by_cases h:P (zs[n]?.getD 0)=true
    ·have M:=aDc D A (G _ h).2;have N:nxP zs n≠-1:=(by rw [M.1];have:=(G _ h).1;omega);have:=ih (n+1) (by omega) (by omega);rw [aHO N (by rw [M.1];exact h),M.2];refine ⟨?_,by omega,this.2.2.1,fun _=>⟨A,h⟩,fun _=>by omega⟩;rw [this.1,O,List.dropWhile_cons,if_pos (by rw [<- S];exact h)]
    ·have E:nxP zs n = -1\/P (nxP zs n)=false:=by
      by_cases y:zs[n]?.getD 0<128
      ·right;rw [(aDc D A y).1];simpa using h
      ·rcases aJA A y with e | e
       ·exact .inl e
       ·right;cases U:P (nxP zs n)
        ·rfl
        ·have:=(G _ U).2;omega
     rw [aC1 E];refine ⟨?_,Nat.le_refl _,J,by simp [h]⟩;rw [O,List.dropWhile_cons,if_neg (by rw [<- S];simpa using h)]
   ·rw [aC1 (.inl (aCo A))];refine ⟨?_,Nat.le_refl _,J,by omega⟩;rw [List.drop_of_length_le (by omega)];rfl
end Go.Proofs.YtmfehflibkokbaaGreatDoor
