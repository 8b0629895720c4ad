import Derived.Handy
import Derived.Orders
import Derived.Deep.RegionWith
import Derived.Test.YtgifkcpdihphlaaGreatDoorMAG
set_option maxHeartbeats 16000000
set_option maxRecDepth 100000
namespace Go.Proofs.YtgifkcpdihphlaaGreatDoor
open Tryz
open Go.RowKit
section
variable (cOk:Cm->Bool) (nOk:List Int->Bool)
def bN:List Cm->Int
 | []=>0
 | c::cs=>c.t.length+bN cs
theorem bB:∀ h,0<=bN h
 | []=>by simp [bN]
 | c::h=>by have:=bB h;simp only [bN];omega
def nr (n:Nod):Int:=n.key.length+n.U.length+n.X.length+(bN n.L+bN n.tail)
def nc (n:Nod):Int:=n.L.length+n.tail.length
theorem pC (n:Nod):0<=nr n:=by have:=bB n.L;have:=bB n.tail;unfold nr;omega
theorem oP (n:Nod):0<=nc n:=by unfold nc;omega
def fJ (n:Nod):Prop:=
 (0<=n.k/\n.k<=6)/\n.L.all cOk=true/\n.tail.all cOk=true/\n.key.all bZ=true/\n.U.all bZ=true/\(n.mem=true\/n.key=[])/\(n.k=3->nOk n.X=true)/\(n.k≠3->n.X=[])/\(n.k≠4->n.U=[])/\(n.k<5->n.C=0/\n.tail=[])/\0<=n.C
def aAD (n:Nod):Prop:=
 (0<=n.k/\n.k<=6)/\(n.mem=true\/n.key=[])/\(n.k≠3->n.X=[])/\(n.k≠4->n.U=[])/\(5<=n.k->0<=n.C)/\(n.k<5->n.C=0/\n.tail=[])
def aFl:List Cm->Int->Option Int
 | [],r=>some r
 | c::cs,r=>if r - c.t.length<0\/cOk c=false then none else aFl cs (r - c.t.length)
theorem aGH:∀ (j:List Cm) (r:Int),0<=r->aFl cOk j r=if j.all cOk=true/\bN j<=r then some (r - bN j) else none
 | [],r,h=>by simp [aFl,bN,h]
 | c::j,r,h=>by
   have G:=bB j;simp only [aFl,bN,List.all_cons]
   by_cases D:r - c.t.length<0
   ·rw [if_pos (.inl D)];exact (if_neg (fun h:(cOk c&&j.all cOk)=true/\(c.t.length:Int)+bN j<=r=>by have:=h.2;omega)).symm
   ·by_cases A:cOk c=true
    ·have E:(if r - c.t.length<0\/cOk c=false then none else aFl cOk j (r - c.t.length))=aFl cOk j (r - c.t.length):=if_neg (fun h=>h.elim D (fun e=>by rw [A] at e;cases e));rw [E,aGH j _ (by omega)]
     by_cases y:j.all cOk=true/\bN j<=r - c.t.length
     ·rw [if_pos y];refine Eq.trans ?_ (if_pos (show (cOk c&&j.all cOk)=true/\(c.t.length:Int)+bN j<=r from ⟨by rw [A,y.1];rfl,by have:=y.2;omega⟩)).symm;congr 1;omega
     ·rw [if_neg y];refine (if_neg (fun h:(cOk c&&j.all cOk)=true/\(c.t.length:Int)+bN j<=r=>y ⟨?_,by have:=h.2;omega⟩)).symm;have:=h.1;rw [A] at this;simpa only [Bool.true_and] using this
    ·have u:cOk c=false:=(by simpa using A);rw [if_pos (.inr u)];exact (if_neg (fun h:(cOk c&&j.all cOk)=true/\(c.t.length:Int)+bN j<=r=>by have:=h.1;rw [u] at this;simp at this)).symm
def mB (cs:List Cm) (s:Int × Int):Option (Int × Int):=if s.1 - cs.length<0 then none else (aFl cOk cs s.2).map fun r=>(s.1 - cs.length,r)
theorem mF (j:List Cm) (c r:Int) (y:0<=r):mB cOk j (c,r)=if (j.length:Int)<=c/\j.all cOk=true/\bN j<=r then some (c - j.length,r - bN j) else none:=by
 unfold mB
 by_cases h:c - (j.length:Int)<0
 ·rw [if_pos h,if_neg (fun A=>by have:=A.1;omega)]
 ·rw [if_neg h,aGH cOk j r y]
  by_cases u:j.all cOk=true/\bN j<=r
  ·rw [if_pos u,if_pos ⟨by omega,u⟩];rfl
  ·rw [if_neg u,if_neg (fun h=>u h.2)];rfl
open Classical in
noncomputable def dU (n:Nod) (s:Int × Int):Option (Int × Int):=
 if ¬ aAD n then none
 else if s.2 - n.key.length<0\/n.key.all bZ=false then none
 else if s.2 - n.key.length - n.U.length<0\/n.U.all bZ=false then none
 else if s.2 - n.key.length - n.U.length - n.X.length<0 then none
 else if n.k=3/\nOk n.X=false then none
 else (mB cOk n.L (s.1,s.2 - n.key.length - n.U.length - n.X.length)).bind fun s'=>mB cOk n.tail s'
theorem aHw (n:Nod):fJ cOk nOk n ↔ aAD n/\n.key.all bZ=true/\n.U.all bZ=true/\(n.k=3->nOk n.X=true)/\n.L.all cOk=true/\n.tail.all cOk=true:=by
 unfold fJ aAD;constructor
 ·rintro ⟨A,M,E,D,N,G,y,H,J,j,u⟩;exact ⟨⟨A,G,H,J,fun _=>u,j⟩,D,N,y,M,E⟩
 ·rintro ⟨⟨A,G,H,J,u,j⟩,D,N,y,M,E⟩;refine ⟨A,M,E,D,N,G,y,H,J,j,?_⟩
  by_cases h:5<=n.k
  ·exact u h
  ·have:=(j (by omega)).1;omega
open Classical in
theorem aCC (n:Nod) (c r:Int):dU cOk nOk n (c,r)=if fJ cOk nOk n/\nc n<=c/\nr n<=r then some (c - nc n,r - nr n) else none:=by
 have Y:=bB n.L;have S:=bB n.tail;rw [aHw];unfold dU nc nr
 by_cases y:aAD n
 ·rw [if_neg (by simpa using y)]
  by_cases E:r - n.key.length<0\/n.key.all bZ=false
  ·rw [if_pos E,if_neg];rintro ⟨⟨_,J,_⟩,_,b⟩;rcases E with h | h
   ·omega
   ·rw [J] at h;cases h
  ·rw [if_neg E]
   by_cases A:r - n.key.length - n.U.length<0\/n.U.all bZ=false
   ·rw [if_pos A,if_neg];rintro ⟨⟨_,_,H,_⟩,_,b⟩;rcases A with h | h
    ·omega
    ·rw [H] at h;cases h
   ·rw [if_neg A]
    by_cases M:r - n.key.length - n.U.length - n.X.length<0
    ·rw [if_pos M,if_neg (by rintro ⟨_,_,b⟩;omega)]
    ·rw [if_neg M]
     by_cases j:n.k=3/\nOk n.X=false
     ·rw [if_pos j,if_neg];rintro ⟨⟨_,_,_,G,_⟩,_⟩;have:=G j.1;rw [j.2] at this;cases this
     ·rw [if_neg j];have J:n.key.all bZ=true:=eq_true_of_ne_false (fun h=>E (.inr h));have H:n.U.all bZ=true:=eq_true_of_ne_false (fun h=>A (.inr h));have G:n.k=3->nOk n.X=true:=fun N=>eq_true_of_ne_false (fun h=>j ⟨N,h⟩);rw [mF cOk n.L c _ (by omega)]
      by_cases D:(n.L.length:Int)<=c/\n.L.all cOk=true/\bN n.L<=r - n.key.length - n.U.length - n.X.length
      ·rw [if_pos D,Option.bind_some,mF cOk n.tail _ _ (by omega)]
       by_cases u:(n.tail.length:Int)<=c - n.L.length/\n.tail.all cOk=true/\bN n.tail<=r - n.key.length - n.U.length - n.X.length - bN n.L
       ·rw [if_pos u,if_pos ⟨⟨y,J,H,G,D.2.1,u.2.1⟩,by omega,by omega⟩];congr 1;rw [Prod.mk.injEq];constructor<;>omega
       ·rw [if_neg u,if_neg];rintro ⟨⟨_,_,_,_,_,a⟩,b,O⟩;exact u ⟨by omega,a,by omega⟩
      ·rw [if_neg D,Option.bind_none,if_neg];rintro ⟨⟨_,_,_,_,a,_⟩,b,O⟩;exact D ⟨by omega,a,by omega⟩
 ·rw [if_pos (by simpa using y),if_neg (fun h=>y h.1.1)]
def eO:List Nod->Int
 | []=>0
 | n::ns=>nr n+eO ns
def fC:List Nod->Int
 | []=>0
 | n::ns=>nc n+fC ns
theorem eR:∀ h,0<=eO h
 | []=>by simp [eO]
 | n::h=>by have:=eR h;have:=pC n;simp only [eO];omega
theorem eV:∀ h,0<=fC h
 | []=>by simp [fC]
 | n::h=>by have:=eV h;have:=oP n;simp only [fC];omega
theorem aDo:∀ (j:List Nod) (c r:Int) (x:Int × Int),0<=c->0<=r->(oJ (dU cOk nOk) j (c,r)=some x ↔ (∀ n∈j,fJ cOk nOk n)/\fC j<=c/\eO j<=r/\x=(c - fC j,r - eO j))
 | [],c,r,x,hc,hr=>by
   simp only [oJ,Option.some.injEq,fC,eO,Int.sub_zero];constructor
   ·intro h;exact ⟨by simp,hc,hr,h.symm⟩
   ·rintro ⟨_,_,_,h⟩;exact h.symm
 | n::j,c,r,x,hc,hr=>by
   have a1:=eR j;have a2:=eV j;have H:=pC n;have J:=oP n;simp only [oJ,aCC cOk nOk n c r,fC,eO]
   by_cases h:fJ cOk nOk n/\nc n<=c/\nr n<=r
   ·rw [if_pos h,Option.bind_some,aDo j _ _ x (by omega) (by omega)];constructor
    ·rintro ⟨y,E,D,A⟩;refine ⟨fun q u=>?_,by omega,by omega,by rw [A,Prod.mk.injEq];constructor<;>omega⟩;simp only [List.mem_cons] at u;rcases u with rfl | u
     ·exact h.1
     ·exact y q u
    ·rintro ⟨y,E,D,A⟩;exact ⟨fun q u=>y q (by simp [u]),by omega,by omega,by rw [A,Prod.mk.injEq];constructor<;>omega⟩
   ·rw [if_neg h,Option.bind_none];constructor
    ·intro G;cases G
    ·rintro ⟨y,E,D,_⟩;exact absurd ⟨y n (by simp),by omega,by omega⟩ h
theorem aFt (j:List Nod) (tail:List Cm) :
  (∃ s x,aD (dU cOk nOk) 201 false (j,(4000,100000))=some ([],s)/\mB cOk tail s=some x) ↔
  (eO j+bN tail<=100000/\fC j+tail.length<=4000/\tail.all cOk=true/\(∀ n∈j,fJ cOk nOk n)/\iF j.length 201 false j=some []):=by
 have a1:=eR j;have a2:=eV j;have a3:=bB tail
 have y:(aD aZ 201 false (j,())=some ([],())) ↔ iF j.length 201 false j=some []:=by
  rw [<- rL j.length 201 false j (Nat.le_refl _)];cases iF j.length 201 false j with
  | none=>simp
  | some R=>simp
 constructor
 ·rintro ⟨s,x,A,u⟩;obtain ⟨g,f⟩:=(aD1 _ 201 false j (4000,100000) s).1 A;obtain ⟨D,O,L,H⟩:=(aDo cOk nOk j 4000 100000 s (by omega) (by omega)).1 f;subst H;rw [mF cOk tail _ _ (by omega)] at u
  by_cases h:(tail.length:Int)<=4000 - fC j/\tail.all cOk=true/\bN tail<=100000 - eO j
  ·exact ⟨by omega,by omega,h.2.1,D,y.1 g⟩
  ·rw [if_neg h] at u;cases u
 ·rintro ⟨M,N,G,E,J⟩;refine ⟨(4000 - fC j,100000 - eO j),(4000 - fC j - tail.length,100000 - eO j - bN tail),?_,?_⟩
  ·exact (aD1 _ 201 false j (4000,100000) _).2 ⟨y.2 J,(aDo cOk nOk j 4000 100000 _ (by omega) (by omega)).2 ⟨E,by omega,by omega,rfl⟩⟩
  ·rw [mF cOk tail _ _ (by omega),if_pos ⟨by omega,G,by omega⟩]
end
theorem sV {σ:Type} (f:σ->Option σ):∀ (a b:Nat) (s:σ),aN f (a+b) s=(aN f a s).bind (aN f b)
 | 0,b,s=>by simp [aN]
 | a+1,b,s=>by
   rw [show a+1+b=(a+b)+1 by omega];simp only [aN];cases f s with
   | none=>rfl
   | some s'=>exact sV f a b s'
theorem qI {σ:Type} (f:σ->Option σ) (k:Nat) (s:σ):aN f (k+1) s=(aN f k s).bind f:=by
 rw [sV f k 1 s];cases aN f k s with
 | none=>rfl
 | some s'=>simp only [Option.bind_some,aN];cases f s'<;>rfl
theorem tK (y d:Nat) (m:Bool) (u:List Nod) (G:u.length<=y) (j:Nat) (R:List Nod) (h:iF y d m (u.drop j)=some R):∃ i,i<=u.length/\R=u.drop i:=by
 have E:=rL y d m (u.drop j) (by simp;omega);rw [h] at E;obtain ⟨P,r⟩:=(bV aZ d m).2 (u.drop j) R E.symm;have D:u=(u.take j++P)++R:=(by rw [List.append_assoc,<- r,List.take_append_drop]);generalize u.take j++P=A at D;refine ⟨A.length,by rw [D];simp,by rw [D];simp⟩
def dA (len:Nat):Option (List Nod)->Int
 | none=>-1
 | some R=>len - R.length
theorem aBM (t:Tre) (hn:t.N.length<=1048576) (hc:∀ p∈t.N,p.k<5->p.C=0) (hb:∀ p∈t.N,-9223372036854775808<=p.C/\p.C<=9223372036854775807):∀ (d:Nat),d<=201->∀ (i:Nat) (m:Bool) (nv tv:Value) (w:World),i<=t.N.length->dG w.heap.size w nv tv t->
  Calls prog 34 #[.agg #[nv,tv],.int .i64 i,.bool m,.int .i64 d] w fun e w'=>e=.returned (.int .i64 (dA t.N.length (iF t.N.length (d+1) m (t.N.drop i))))/\w.grownBy w' none:=by
 intro d
 induction d using Nat.strongRecOn with
 | ind d ih=>
   intro hd i m nv tv w hi hv;obtain ⟨c4,b5⟩:=id hv;obtain ⟨na,y,d3,_⟩:=id c4;obtain ⟨ta,D,d0,_⟩:=id b5;have HV:=aB hv;have IH:=aB ih;subst d3 d0;clear c4 b5 hv ih
   by_cases Y:i<t.N.length
   ·obtain ⟨b,off,g0,lv,kv,xv,uv,i3,c9,g9,G⟩:=HV.out.1.at i Y;cases c9;have z0:=G.k;have z1:=G.L;have z2:=G.mem;have z3:=G.key;have z4:=G.X;have z5:=G.U;have z6:=G.C;have z7:=G.tail;obtain ⟨la,a8,c2,_,_⟩:=G.rl.sl;obtain ⟨qa,Z,c3,_,_⟩:=G.rt.sl;obtain ⟨ka,a6,b4,_,_⟩:=G.sk;obtain ⟨xa,a9,b9,_,_⟩:=G.sx;obtain ⟨ua,a5,b8,_,_⟩:=G.su;have b0:=hc _ (List.getElem_mem Y);have b1:=hb _ (List.getElem_mem Y);have S:t.N.drop i=t.N[i]::t.N.drop (i+1):=List.drop_eq_getElem_cons Y;have aw:∀ (n:Nat),w.grownBy ((w.alloc (Obj.cells #[.slice (some ⟨b,off,none⟩) t.N.length y,.slice ta t.tail.length D] 33)).drewN n) none:=fun n=>dT gWA n;have f4:=(World.grownBy_alloc w (Obj.cells #[.slice (some ⟨b,off,none⟩) t.N.length y,.slice ta t.tail.length D] 33) none).cell z2 (by simp)
    by_cases hm:t.N[i].mem=m
    ·subst hm
     have A:iF t.N.length (d+1) t.N[i].mem (t.N.drop i)=if ((t.N.length:Int)<t.N[i].C\/(5<=t.N[i].k/\d=0)) then none else aN (iF t.N.length d (decide (t.N[i].k=6))) t.N[i].C.toNat (t.N.drop (i+1)):=by
      rw [S];simp only [iF,ne_eq,not_true_eq_false,if_false]
     subst c2 c3 b4 b9 b8;clear G
     by_cases M:(t.N.length:Int)<t.N[i].C\/(5<=t.N[i].k/\d=0)
     ·rw [if_pos M] at A;have H:Hid (dA t.N.length (iF t.N.length (d+1) t.N[i].mem (t.N.drop i)) = -1):=(by unfold Hid;rw [A];rfl);clear A S;generalize t.N[i]=p at *
      by_cases d4:(t.N.length:Int)<p.C
      ·go_enter func34,ntmps34
       go_wp2;go_ret;exact ⟨by rw [H.out];rfl,aA gWA gWA⟩
      ·obtain ⟨b7,c7⟩:=M.resolve_left d4;subst c7
       go_enter func34,ntmps34
       go_wp2;go_ret;exact ⟨by rw [H.out];rfl,aA gWA gWA⟩
     ·rw [if_neg M] at A;obtain ⟨c1,a4⟩:=not_or.1 M;have c8:t.N[i].C<=t.N.length:=(by omega);have d6:5<=t.N[i].k->d≠0:=fun h e=>a4 ⟨h,e⟩;have O:=aB A;have d8:=aB b0;clear A S M c1 a4 b0;have g8:=b1.1;have h1:=b1.2;generalize t.N[i]=p at *
      by_cases b7:5<=p.k
      ·have h6:=d6 b7;have h5:(0:Int)<d:=(by omega);have h2:((d:Int)==0)=false:=by simp;omega
       go_enter func34,ntmps34
       go_wp2
       have HC:Hid (∀ wr:World,((w.alloc (Obj.cells #[.slice (some ⟨b,off,none⟩) t.N.length y,.slice ta t.tail.length D] 33)).alloc (Obj.cells #[.int .i64 p.k,.slice la p.L.length a8,.bool p.mem,.slice ka p.key.length a6,.slice xa p.X.length a9,.slice ua p.U.length a5,.int .i64 p.C,.slice qa p.tail.length Z] 49)).grownBy wr none->(wr.cell? ⟨w.heap.size,0,none⟩=some (.slice (some ⟨b,off,none⟩) t.N.length y)/\wr.cell? ⟨w.heap.size,1,none⟩=some (.slice ta t.tail.length D))/\wr.cell? ⟨w.heap.size+1,0,none⟩=some (.int .i64 p.k)/\wr.cell? ⟨w.heap.size+1,6,none⟩=some (.int .i64 p.C)):=fun wr g=>
        ⟨⟨g.cell (by simp [go_sem]) (by simp),g.cell (by simp [go_sem]) (by simp)⟩,g.cell (by simp [go_sem]) (by simp),g.cell (by simp [go_sem]) (by simp)⟩
       go_loopw [10,11] (fun d9 kk wr=>∃ k j:Nat,kk=.int .i64 k/\d9=.int .i64 j/\(k:Int)<=p.C.toNat/\j<=t.N.length/\Hid (aN (iF t.N.length d (decide (p.k=6))) k (t.N.drop (i+1))=some (t.N.drop j))/\((w.alloc (Obj.cells #[.slice (some ⟨b,off,none⟩) t.N.length y,.slice ta t.tail.length D] 33)).alloc (Obj.cells #[.int .i64 p.k,.slice la p.L.length a8,.bool p.mem,.slice ka p.key.length a6,.slice xa p.X.length a9,.slice ua p.U.length a5,.int .i64 p.C,.slice qa p.tail.length Z] 49)).grownBy wr none) (fun _ kk _=>p.C.toNat - (intOf kk).toNat)
       case atStart=>exact ⟨0,i+1,rfl,by go_num,by omega,by omega,rfl,World.grownBy.refl _ _⟩
       case round=>
        obtain ⟨k,j,rfl,rfl,hk,hj,HL,J⟩:=hrel;obtain ⟨⟨y0,y1⟩,y2,y3⟩:=HC.out wr J;have E:=aA (aA (World.grownBy_alloc w _ none) (World.grownBy_alloc _ _ none)) J
        by_cases h4:(k:Int)<p.C
        ·have CI:=aB (IH.out (d - 1) (by omega) (by omega) j (decide (p.k=6)) (.slice (some ⟨b,off,none⟩) t.N.length y) (.slice ta t.tail.length D) wr hj ⟨(HV.out.1.K E).wide E.size,(HV.out.2.K E).wide E.size⟩);rw [show d - 1+1=d by omega,show ((d - 1:Nat):Int)=(d:Int) - 1 by omega] at CI;have HG:=aB E;have f9:=aB J;clear J E;cases u:iF t.N.length d (decide (p.k=6)) (t.N.drop j) with
         | none=>
           rw [u] at CI
           have H:Hid (dA t.N.length (iF t.N.length (d+1) p.mem (t.N.drop i)) = -1):=by
            unfold Hid;rw [O.out,show p.C.toNat=k+((p.C.toNat - k - 1)+1) by omega,sV,HL.out,Option.bind_some];simp only [aN,u,Option.bind_none,dA]
           clear u
           go_wp2_with fail
           refine CI.out.mono ?_;rintro e w2 ⟨rfl,g2⟩;simp only [dA];go_wp2;go_ret;exact ⟨by rw [H.out];rfl,aA HG.out g2⟩
         | some R=>
           rw [u] at CI;obtain ⟨j',f7,hR⟩:=tK t.N.length d _ t.N (Nat.le_refl _) j R u;subst hR;have a7:dA t.N.length (some (t.N.drop j'))=(j':Int):=(by simp only [dA,List.length_drop];omega);rw [a7] at CI
           have d5:Hid (aN (iF t.N.length d (decide (p.k=6))) (k+1) (t.N.drop (i+1))=some (t.N.drop j')):=by
            unfold Hid;rw [qI,HL.out,Option.bind_some];exact u
           clear u a7
           go_wp2_with fail
           refine CI.out.mono ?_;rintro e w2 ⟨rfl,g2⟩;go_wp2
           go_roundw
           case rel=>exact ⟨k+1,j',by go_num,rfl,by omega,f7,d5,aA f9.out g2⟩
           case measure=>simp [intOf];omega
        ·have c0:p.C.toNat=k:=by omega
         have H:Hid (dA t.N.length (iF t.N.length (d+1) p.mem (t.N.drop i))=j):=by
          unfold Hid;rw [O.out,c0,HL.out];simp only [dA,List.length_drop];omega
         have HG:=aB E;clear J E c0;go_wp2;go_ret;exact ⟨by rw [H.out];rfl,HG.out⟩
      ·have c5:=d8.out (by omega)
       have H:Hid (dA t.N.length (iF t.N.length (d+1) p.mem (t.N.drop i))=(i:Int)+1):=by
        unfold Hid;rw [O.out,c5];simp only [Int.toNat_zero,aN,dA,List.length_drop];omega
       rw [c5] at z6
       go_enter func34,ntmps34
       go_wp2;refine wp_loop_rounds 1 ?_;rw [rounds_succ];go_wp2;go_ret;exact ⟨by rw [H.out];rfl,aA gWA gWA⟩
    ·have H:Hid (dA t.N.length (iF t.N.length (d+1) m (t.N.drop i)) = -1):=by
      unfold Hid;rw [S];simp [iF,hm,dA]
     have b6:t.N[i].mem = !m:=(by cases hq:t.N[i].mem<;>cases m<;>simp_all);rw [b6] at z2;clear f4;subst c2 c3 b4 b9 b8;clear G hm b6 b0 b1 S;generalize t.N[i]=p at *;cases m <;>
     ·simp only [Bool.not_true,Bool.not_false] at z2
      go_enter func34,ntmps34
      go_wp2;go_ret;exact ⟨by rw [H.out];rfl,gWA⟩
   ·have H:Hid (dA t.N.length (iF t.N.length (d+1) m (t.N.drop i)) = -1):=by
     unfold Hid;rw [List.drop_eq_nil_of_le (by omega)];rfl
    have h8:(t.N.length:Int)<=i:=by omega
    go_enter func34,ntmps34
    go_wp2;go_ret;exact ⟨by rw [H.out];rfl,gWA⟩
theorem aEk {s:List Int} {m:Nat} (M:1<=m) (L:m<=4) (u:∀ j,1<=j->j<m->hit s j=false) (h:hit s m=true):aM s=m:=by
 unfold aM
 by_cases G:m=1
 ·subst G;simp [h]
 ·have y:=u 1 (by omega) (by omega)
  by_cases H:m=2
  ·subst H;simp [h,y]
  ·have A:=u 2 (by omega) (by omega)
   by_cases J:m=3
   ·subst J;simp [h,y,A]
   ·have D:=u 3 (by omega) (by omega);have E:m=4:=(by omega);subst E;simp [h,y,A,D]
theorem aAV {s:List Int} {m:Nat} (u:4<m) (h:∀ j,1<=j->j<m->hit s j=false):aM s=0:=by
 unfold aM;simp [h 1 (by omega) (by omega),h 2 (by omega) (by omega),h 3 (by omega) (by omega),h 4 (by omega) (by omega)]
theorem vY {s:List Int} {m:Nat} (u:∀ j,1<=j->j<m->hit s j=false) (h:hit s m=false):∀ j,1<=j->j<m+1->hit s j=false:=by
 intro j y A
 by_cases e:j=m
 ·rw [e];exact h
 ·exact u j y (by omega)
theorem tO (v:Value) (zs:List Int) (w:World) (hv:RdB w.heap.size w v zs) (b2:Bys zs) (hn:zs.length<=1048576) :
  Calls prog 74 #[v] w fun e w'=>∃ v',e=.returned (.tuple #[v',.int .i64 (eM zs).2.1,.int .i64 (eM zs).2.2])/\OwI w.heap.size w' v' (eM zs).1/\w.grownBy w' none:=by
 obtain ⟨i0,hi,a7,a8,b1⟩:=info_parts aAH;obtain ⟨a,cap,rfl,hr⟩:=hv;have HV:Hid (RdB w.heap.size w (.slice a zs.length cap) zs):=⟨a,cap,rfl,hr⟩;clear hr
 go_enter func74,ntmps74
 go_wp2
 go_loopw [5,6] (fun v i wr=>∃ (k:Nat) (A:List Int),i=.int .i64 k/\OwI w.heap.size wr v A/\Mid zs A k/\Below w.heap.size w wr)
  (fun _ i _=>zs.length - (intOf i).toNat)
 case atStart=>exact ⟨0,[],rfl,World.ownsRow_nil _ _ _ _,Mid.start zs,Below.refl _ _⟩
 case round=>
  obtain ⟨k,A,rfl,D,E,G⟩:=hrel;have c3:=E.1;have b8:=E.2.1;have HM:Hid (Mid zs A k):=E;clear E
  by_cases S:k<zs.length
  ·obtain ⟨s,hs⟩:∃ s,s=zs.drop k:=⟨_,rfl⟩;have HS:Hid (s=zs.drop k):=hs;clear hs;have HR:Hid (RdB wr.heap.size wr (.slice a zs.length cap) zs):=HV.out.later (aC G);go_wp2
   go_loop [5,7,8] (fun o st i=>o=u5/\st=.int .i64 0/\∃ m:Nat,1<=m/\m<=5/\i=.int .i64 m/\Hid (∀ j,1<=j->j<m->hit s j=false))
    (fun _ _ i=>5 - (intOf i).toNat)
   case atStart=>exact ⟨rfl,rfl,1,by omega,by omega,rfl,fun j h1 h2=>by omega⟩
   case round=>
    obtain ⟨rfl,rfl,m,Z,c0,rfl,U⟩:=hrel
    by_cases Y:m<=4
    ·have N:=xT _ zs k m wr HR.out b2 (by omega) S Z Y;rw [<- HS.out] at N;have y:=N;clear N
     by_cases O:0<=lv s m
     ·cases hh:(cM (lv s m)==(m:Int))
      ·have L:Hid (∀ j,1<=j->j<m+1->hit s j=false):=vY U.out (by simp [hit,hh]);generalize lv s m=x at y O hh
       go_wp2_with (first
        | (go_at_call 108;refine y.mono ?_;rintro e w' ⟨rfl,rfl⟩)
        | (go_at_call 104;refine (jJ _ _).mono ?_;rintro e w' ⟨rfl,rfl⟩))
       go_round
       case rel=>exact ⟨rfl,rfl,m+1,by omega,by omega,by go_num,L⟩
       case measure=>simp [intOf];omega
      ·have X:Hid (aM s=m):=aEk Z Y U.out (by simp [hit,hh,O]);have b7:((m:Int)==0)=false:=by simp;omega
       have H:Hid (Mid zs (A++[lv s m]) (k+m)):=by
        have h:=HM.out.step S (by rw [<- HS.out,X.out];omega);rw [<- HS.out,X.out] at h;exact h
       have c2:k+m<=zs.length:=H.out.1;generalize lv s m=x at y O hh H
       go_wp2_with (first
        | (go_at_call 108;refine y.mono ?_;rintro e w' ⟨rfl,rfl⟩)
        | (go_at_call 104;refine (jJ _ _).mono ?_;rintro e w' ⟨rfl,rfl⟩)
        | (at_builtin;refine wpList_append_own _ rfl _ _ 47 rfl w.heap.size 3 i0 (.int .i64 0) 1 8 underlying47 hi a7 a8 b1 rfl (by decide) _ _ _ rfl (World.ownsRow.alloc D _) ⟨wr.heap.size,0,none⟩ 1 1 [.int .i64 x] rfl rfl (cell_one_new _ _ _) (by intro u hu;simp at hu;subst hu;rfl) (by unfold maxLen;omega) (by omega) (by have:=G.size;simp;omega) ?_;intro v' w1 M J _))
       have R:=cD (xs:=[x]) _ G.size D M (by simp) J;clear M J D y;go_wp2
       go_roundw
       case rel=>exact ⟨k+m,A++[x],by go_num,R.1,H.out,G.trans R.2⟩
       case measure=>simp [intOf];omega
     ·have L:Hid (∀ j,1<=j->j<m+1->hit s j=false):=vY U.out (by simp [hit];omega);generalize lv s m=x at y O;have b6:x<0:=by omega
      go_wp2_with (go_at_call 108;refine y.mono ?_;rintro e w' ⟨rfl,rfl⟩)
      go_round
      case rel=>exact ⟨rfl,rfl,m+1,by omega,by omega,by go_num,L⟩
      case measure=>simp [intOf];omega
    ·have X:Hid (aM s=0):=aAV (by omega) U.out
     have HD:Hid (eM zs=([],2,(k:Int))):=by
      refine HM.out.bad S ?_;rw [<- HS.out];exact X.out
     go_wp2
     go_ret3
     exact ⟨_,by rw [HD.out];rfl,by rw [HD.out];exact World.ownsRow_nil _ _ _ _,aC G⟩
  ·have HD:Hid (eM zs=(A,0,0)):=HM.out.done S;go_wp2
   go_ret3
   exact ⟨_,by rw [HD.out];rfl,by rw [HD.out];exact D,aC G⟩
end Go.Proofs.YtgifkcpdihphlaaGreatDoor
namespace Go.Proofs.YtgifkcpdihphlaaGreatDoor
open Tryz
section
variable {P:Program} {ops:Array Oper} {Q:Exit->Act->World->Prop} {md:Region.Mode} {I:World->Prop} {ex:Nat->Bool}
def kZ (P:Program) (md:Region.Mode) (ops:Array Oper) (Q:Exit->Act->World->Prop) (I:World->Prop) (ex:Nat->Bool):Nat->Array Bool->Act->World->Prop
 | 0,listed,a,w=>Region.ready md ops listed=[]/\Q .normal a w
 | fuel+1,listed,a,w=>(Region.ready md ops listed=[]->Q .normal a w)/\
   ∀ i∈Region.ready md ops listed,wpOp P ops Q i (fun a' w'=>(ex i=true\/I w')/\kZ P md ops Q I ex fuel (listed.setIfInBounds i true) a' w') a w
theorem yA:∀ (fuel:Nat) (j:Array Bool) (a:Act) (w:World),kZ P md ops Q I ex fuel j a w->wpAny P md ops Q fuel j a w
 | 0,_,_,_,h=>h
 | fuel+1,_,_,_,h=>⟨h.1,fun i y=>wpOp_mono (fun A w' u=>yA fuel _ A w' u.2) (h.2 i y)⟩
theorem cS (I:World->Prop) (ex:Nat->Bool) {u:Nat} {a:Act} {w:World} (j:P.follows .mixedOrders=true) (h:kZ P .any ops Q I ex ops.size (Array.replicate ops.size false) a w.drew):(Code.region u ops true).wp P Q a w:=
 wp_region_any j (yA _ _ _ _ h)
theorem aEW {j:Nat} {D:Oper} {K:Act->World->Prop} {a:Act} {w:World} (H:ops[j]?=some D) (h:wpOp P ops Q j K a w) :
  wpOp P ops Q j (fun E w'=>K E w'/\∃ G u,E=({ a with defers:=G } : Act).put D.dst u) a w:=by
 unfold wpOp at *;simp only [H] at *
 split
 ·rename_i hw
  simp only [hw,if_true] at h;rcases h with h | h
  case inr=>exact .inr h
  refine .inl ?_;unfold Oper.wp at *;generalize (execOp a.eval D).run P w=r at *;cases r with
  | halt x w'=>cases x<;>simp only [Oper.upon] at h ⊢ <;> exact h
  | ok n w'=>
    cases n<;>simp only [Oper.upon] at h ⊢
    case value u=>exact ⟨h,a.defers,u,rfl⟩
    case skip=>exact ⟨h,a.defers,undef,rfl⟩
    case defer d=>exact ⟨h,d::a.defers,undef,rfl⟩
    case enter f args=>
     refine Calls.mono h fun e A y=>?_;cases e with
     | returned u=>exact ⟨y,a.defers,u,rfl⟩
     | panicked c=>exact y
     | outgrown=>exact y
    case row row args=>exact Rows.mono h fun u A y=>⟨y,a.defers,u,rfl⟩
 ·rename_i hw
  simp only [hw] at h;exact ⟨h,a.defers,undef,rfl⟩
def aHB (P:Program) (ops:Array Oper) (I:World->Prop) (o:Oper) (v:Value) (a:Act):Prop:=
 Region.wanted o (yielded ops a.tmps)=true/\∀ w,I w->(execOp a.eval o).run P w=.ok (.value v) w
def aI6 (md:Region.Mode) (ops:Array Oper) (ex:Nat->Bool) (i:Nat):Bool:=
 (List.range ops.size).all fun j=>!ex j||match ops[j]? with
  | some o=>o.after.any fun e=>Region.binds md e&&e.on==i
  | none=>true
theorem aHn {i j:Nat} {D:Oper} (h:aI6 md ops ex i=true) (E:ops[j]?=some D) (A:∀ e∈D.after,Region.binds md e=true->e.on≠i):ex j=false:=by
 simp only [aI6,List.all_eq_true,List.mem_range] at h;have u:=h j (Array.getElem?_eq_some_iff.1 E).1;simp only [E,Bool.or_eq_true,Bool.not_eq_true'] at u;rcases u with u | u
 ·exact u
 ·obtain ⟨e,G,y⟩:=Array.any_eq_true'.1 u;simp only [Bool.and_eq_true,beq_iff_eq] at y;exact absurd y.2 (A e G y.1)
def vU (o:Oper) (v:Value):Oper:={ dst:=o.dst,op:=.move (.const v),type:=o.type,pos:=o.pos,after:=#[],guard:=none }
theorem aAe (o:Oper) (v:Value) (a:Act):Yields P ops (vU o v) v a:=.inl ⟨rfl,fun _=>rfl⟩
theorem aBa {o j:Oper} {v:Value} (h:o.apart ops j=true):(vU o v).apart ops j=true:=by
 have u:(vU o v).looksAt ops=[]:=(by simp [Oper.looksAt,vU,Op.operands]);unfold Oper.apart at *;rw [Bool.and_eq_true] at h;rw [u,Bool.and_eq_true];refine ⟨h.1,?_⟩;cases j.dst<;>simp
theorem aFd {i:Nat} {D:Oper} {v:Value} (hi:ops[i]?=some D) (L:Region.noSelect ops=true) (b3:aI6 md ops ex i=true)
  (hQ:∀ c a w,Q (.panic c) (a.put D.dst v) w->Q (.panic c) a w) :
  ∀ (fuel:Nat) (y:Array Bool) (a:Act) (w:World),
   (∀ j J,ops[j]?=some J->j≠i->y.getD j true=false->(∀ e∈J.after,Region.binds md e=true->e.on≠i)->D.apart ops J=true)->
   i∈Region.ready md ops y->aHB P ops I D v a->I w->
   kZ P md ops Q I ex fuel (y.setIfInBounds i true) (a.put D.dst v) w->kZ P md ops Q I ex (fuel+1) y a w:=by
 have S:∀ (fuel:Nat) (y:Array Bool) (a:Act) (w:World),aHB P ops I D v a->I w->kZ P md ops Q I ex fuel (y.setIfInBounds i true) (a.put D.dst v) w->
   wpOp P ops Q i (fun a' w'=>(ex i=true\/I w')/\kZ P md ops Q I ex fuel (y.setIfInBounds i true) a' w') a w:=by
  intro fuel y a w N Z H;unfold wpOp;simp only [hi,N.1,if_true];refine .inl ?_;unfold Oper.wp;rw [N.2 w Z];exact ⟨.inr Z,H⟩
 intro fuel
 induction fuel with
 | zero=>
   intro y a w _ X N Z H;refine ⟨fun h=>(by rw [h] at X;cases X),fun j hj=>?_⟩
   by_cases A:j=i
   ·subst A;exact S 0 y a w N Z H
   ·have:=ready_mono hj A;rw [H.1] at this;cases this
 | succ fuel ih=>
   intro y a w G X N Z H;refine ⟨fun h=>(by rw [h] at X;cases X),fun j hj=>?_⟩
   by_cases A:j=i
   ·subst A;exact S _ y a w N Z H
   ·have h1:=H.2 j (ready_mono hj A);obtain ⟨M,J,E,a7⟩:=mem_ready.1 hj
    have O:∀ e∈J.after,Region.binds md e=true->e.on≠i:=fun e he hb b4=>by
     have Y:=a7 e he hb;have h0:=(mem_ready.1 X).1;rw [b4] at Y;rcases Nat.lt_or_ge i y.size with h' | h'
     ·simp [h'] at h0 Y;rw [h0] at Y;cases Y
     ·simp [Array.getElem?_eq_none h'] at Y
    have a5:=G j J E A M O;have a6:=aHn b3 E O;have Y:=aEW E (wpOp_put E (aBa (v:=v) a5) (fun cs b=>by simp [vU]) (fun cs b=>Region.noSelect_spec L j J cs b E) hQ (aAe D v a) h1);obtain ⟨_,_,h3⟩:=Oper.apart_spec a5;refine wpOp_mono (fun a' w' h4=>?_) Y;obtain ⟨⟨_,hI,U⟩,ds,u,rfl⟩:=h4;have a4:I w':=hI.resolve_left (by rw [a6];simp);refine ⟨.inr a4,ih (y.setIfInBounds j true) _ w' ?_ (ready_mono X (Ne.symm A)) ?_ a4 ?_⟩
    ·intro k ok hk b5 a9 b2;refine G k ok hk b5 ?_ b2
     by_cases a8:j=k
     ·subst a8;exact M
     ·rw [getD_set_ne true a8] at a9;exact a9
    ·refine ⟨?_,?_⟩
     ·rw [wanted_put D _ J.dst u h3];exact N.1
     ·rw [execOp_put D (fun cs b=>Region.noSelect_spec L i D cs b hi) _ J.dst u h3];exact N.2
    ·rw [Array.setIfInBounds_comm _ _ A];exact U
theorem aHt {i:Nat} {u:Oper} (v:Value) {fuel:Nat} {j:Array Bool} {a:Act} {w:World} (A:ops[i]?=some u) (J:Region.noSelect ops=true) (D:Region.free md ops j i=true)
  (G:(Region.ready md ops j).contains i=true) (y:aI6 md ops ex i=true) (L:∀ c a w,Q (.panic c) (a.put u.dst v) w->Q (.panic c) a w) (E:I w) (H:aHB P ops I u v a)
  (h:kZ P md ops Q I ex fuel (j.setIfInBounds i true) (a.put u.dst v) w):kZ P md ops Q I ex (fuel+1) j a w:=
 aFd A J y L fuel j a w (Region.free_spec A D) (by simpa using G) H E h
theorem bE {i:Nat} {u:Oper} (v:Value) {fuel:Nat} {j:Array Bool} {a:Act} {w:World} (E:ops[i]?=some u) (D:I w) (G:aHB P ops I u v a) (h:kZ P md ops Q I ex fuel (j.setIfInBounds i true) (a.put u.dst v) w) (J:Region.noSelect ops=true:=by kernel_rfl) (A:Region.free md ops j i=true:=by kernel_rfl)
  (H:(Region.ready md ops j).contains i=true:=by kernel_rfl) (y:aI6 md ops ex i=true:=by kernel_rfl) (L:∀ c a w,Q (.panic c) (a.put u.dst v) w->Q (.panic c) a w:=by exact fun _ _ _ h=>h):kZ P md ops Q I ex (fuel+1) j a w:=
 aHt v E J A H y L D G h
theorem aL {i:Nat} {fuel:Nat} {u:Array Bool} {a:Act} {w:World} (A:Region.ready md ops u=[i])
  (h:wpOp P ops Q i (fun E w'=>(ex i=true\/I w')/\kZ P md ops Q I ex fuel (u.setIfInBounds i true) E w') a w):kZ P md ops Q I ex (fuel+1) u a w:=
 ⟨fun D=>(by rw [A] at D;cases D),fun j y=>by rw [A] at y;simp at y;subst y;exact h⟩
theorem eD {j:Array Bool} {a:Act} {w:World} (u:Region.ready md ops j=[]) (h:Q .normal a w):∀ fuel,kZ P md ops Q I ex fuel j a w
 | 0=>⟨u,h⟩
 | _+1=>⟨fun _=>h,by rw [u];simp⟩
theorem bM {i:Nat} {o:Oper} {K:Act->World->Prop} {a:Act} {w w':World} {v:Value} (y:ops[i]?=some o) (A:o.guard=none) (j:(execOp a.eval o).run P w=.ok (.value v) w') (h:K (a.put o.dst v) w'):wpOp P ops Q i K a w:=by
 unfold wpOp;have u:Region.wanted o (yielded ops a.tmps)=true:=(by simp [Region.wanted,A]);simp only [y,u,if_true];refine .inl ?_;unfold Oper.wp;rw [j];exact h
theorem aG9 {i:Nat} {o:Oper} {K:Act->World->Prop} {a:Act} {w w':World} (y:ops[i]?=some o) (A:o.guard=none) (j:(execOp a.eval o).run P w=.ok .skip w') (h:K (a.put o.dst undef) w'):wpOp P ops Q i K a w:=by
 unfold wpOp;have u:Region.wanted o (yielded ops a.tmps)=true:=(by simp [Region.wanted,A]);simp only [y,u,if_true];refine .inl ?_;unfold Oper.wp;rw [j];exact h
theorem eC {i:Nat} {o:Oper} {K:Act->World->Prop} {a:Act} {w u:World} {f:FuncId} {args:Array Value} {R:Ending->World->Prop} (E:ops[i]?=some o) (H:o.guard=none) (j:(execOp a.eval o).run P w=.ok (.enter f args) u)
  (A:Calls P f args u R) (h:∀ e w',R e w'->∃ v,e=.returned v/\K (a.put o.dst v) w'):wpOp P ops Q i K a w:=by
 unfold wpOp;have y:Region.wanted o (yielded ops a.tmps)=true:=(by simp [Region.wanted,H]);simp only [E,y,if_true];refine .inl ?_;unfold Oper.wp;rw [j];refine Calls.mono A fun e w' G=>?_;obtain ⟨v,rfl,D⟩:=h e w' G;exact D
theorem cC {o:Oper} {v:Value} {a:Act} (j:o.guard=none) (h:∀ w,I w->(execOp a.eval o).run P w=.ok (.value v) w):aHB P ops I o v a:=
 ⟨by simp [Region.wanted,j],h⟩
end
section
variable {P:Program} {ops:Array Oper} {Q:Exit->Act->World->Prop} {md:Region.Mode} {I:World->Prop} {ex:Nat->Bool}
theorem eQ {i:Nat} {o:Oper} {K:Act->World->Prop} {a:Act} {w w':World} {v:Value} (y:ops[i]?=some o) (u:Region.wanted o (yielded ops a.tmps)=true) (j:(execOp a.eval o).run P w=.ok (.value v) w') (h:K (a.put o.dst v) w'):wpOp P ops Q i K a w:=by
 unfold wpOp;simp only [y,u,if_true];refine .inl ?_;unfold Oper.wp;rw [j];exact h
theorem kP {i:Nat} {o:Oper} {K:Act->World->Prop} {a:Act} {w u:World} {f:FuncId} {args:Array Value} {R:Ending->World->Prop} (E:ops[i]?=some o) (y:Region.wanted o (yielded ops a.tmps)=true) (j:(execOp a.eval o).run P w=.ok (.enter f args) u)
  (A:Calls P f args u R) (h:∀ e w',R e w'->∃ v,e=.returned v/\K (a.put o.dst v) w'):wpOp P ops Q i K a w:=by
 unfold wpOp;simp only [E,y,if_true];refine .inl ?_;unfold Oper.wp;rw [j];refine Calls.mono A fun e w' G=>?_;obtain ⟨v,rfl,D⟩:=h e w' G;exact D
theorem lZ {o:Oper} {v:Value} {a:Act} (j:Region.wanted o (yielded ops a.tmps)=true) (h:∀ w,I w->(execOp a.eval o).run P w=.ok (.value v) w):aHB P ops I o v a:=⟨j,h⟩
end
end Go.Proofs.YtgifkcpdihphlaaGreatDoor
