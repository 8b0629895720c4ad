import Derived.Test.YtmfehflibkokbaaGreatDoorMAQ
import Derived.Test.YtmfehflibkokbaaGreatDoorMBQ
set_option maxHeartbeats 16000000
set_option maxRecDepth 100000
namespace Go.Proofs.YtmfehflibkokbaaGreatDoor
open Go.Proofs.Tryz
open Go.RowKit
attribute [-go_sem] Builtin.append_
theorem uM (n h:Int) (w:World):Calls prog 20 #[.int .i64 n,.int .i64 h] w fun e w'=>e=.returned (.bool (decide (0<=n/\n<=h)))/\w=w':=by
 by_cases A:0<=n
 ·have y:decide (0<=n)=true:=by simpa using A
  go_enter func20,ntmps20
  go_wp2;go_ret;exact ⟨by simp [A],rfl⟩
 ·have y:decide (0<=n)=false:=by simpa using A
  go_enter func20,ntmps20
  go_wp2;go_ret;exact ⟨by simp,rfl⟩
theorem DfR.base {H H':Nat} {w:World} {v:Value} {ps:List Pc} (h:DfR H w v ps) (E:H'<=H):DfR H' w v ps:=by
 obtain ⟨y,J,M,D,N⟩:=h;exact ⟨y,J,dP E M,fun j p tv A G=>⟨(D j p tv A G).1.base E,(D j p tv A G).2⟩,N⟩
theorem aLI (ind:Int) (t:Tre) (y:aE bC 201 false (t.N,())=some ([],())):cV (iN (aJ ind 201) t.N++[aH 4]++bM t.tail)=dT ind t:=by
 unfold dT;rcases hh:t.N with _ | ⟨n,R⟩
 ·rw [hh] at y;simp [aE] at y
 ·rw [hh] at y
  have A:n.mem=false:=by
   by_cases h:n.mem≠false
   ·simp [aE,h] at y
   ·simpa using h
  simp [iN,pB,A]
theorem sB (t:Tre) (ind m:Int) (vv:Bool) (d5:vv=true->NsK t.N/\xC t.tail/\wC t.tail<=2000000/\aE bC 201 false (t.N,())=some ([],())) (nv tv:Value) (w:World) (hv:eF w.heap.size w nv tv t) (hT:Tab w) (hM:w.cell? ⟨1,0,none⟩=some (.int .i64 m))
  (O:∀ W:World,eF W.heap.size W nv tv t->Tab W->W.cell? ⟨1,0,none⟩=some (.int .i64 m)->Calls prog 22 #[.agg #[nv,tv]] W fun e g0=>e=.returned (.bool vv)/\W.grownBy g0 none) :
  Calls prog 8 #[.agg #[nv,tv],.int .i64 ind] w fun e w'=>∃ v',e=.returned (.tuple #[v',.int .i64 (bdR vv ind t).2])/\DfR w.heap.size w' v' (bdR vv ind t).1/\w.grownBy w' none:=by
 have i4:∀ (x:Bool) (w:World),(Op.unary .not (.bool x)).run prog w=.ok (.bool (!x)) w:=fun _ _=>rfl;obtain ⟨b6,b5⟩:=id hv;have h7:2<=w.heap.size:=World.block_lt_of_cell? w _ hM;have g4:Hid (∀ W:World,w.grownBy W none->eF W.heap.size W nv tv t):=fun W g=>⟨(b6.K g).wide g.size,(b5.K g).wide g.size⟩;have HV:Hid (∀ W:World,w.grownBy W none->_):=fun W (g:w.grownBy W none)=>O W (g4.out W g) (hT.K g) (g.cell hM (by simp));have H1:=aB d5;have HT:=aB hT;have HM:=aB hM;have HN:=aB b6;have g6:=aB b5;have HW:Hid (∀ U:World,_):=fun U=>uM ind 16 U;obtain ⟨na,y,g8,_⟩:=id b6;obtain ⟨ta,G,h5,_⟩:=id b5;subst g8 h5;clear b6 b5 hv O d5 hT hM;have gA:=World.grownBy_alloc w (Obj.cells #[.slice na t.N.length y,.slice ta t.tail.length G] 26) none;have GA:=aB gA;clear gA
 by_cases a9:0<=ind/\ind<=16
 ·have a5:decide (0<=ind/\ind<=16)=true:=by simpa using a9
  go_enter func8,ntmps8
  go_wp2_with fail
  refine (HW.out _).mono ?_;rintro e w0 ⟨rfl,c3⟩;rw [a5];subst c3;clear HW
  go_wp2_with fail
  refine (HV.out _ GA.out).mono ?_;rintro e S ⟨rfl,g1⟩;have q0:=g1.cell (a:=⟨w.heap.size,0,none⟩) (v:=.slice na t.N.length y) (by simp [go_sem]) (by simp);have q1:=g1.cell (a:=⟨w.heap.size,1,none⟩) (v:=.slice ta t.tail.length G) (by simp [go_sem]) (by simp);have G1:=aB (aA GA.out g1);have s1:w.heap.size+1<=S.heap.size:=(by have:=g1.size;simp at this;omega);clear HV g1;cases vv with
  | false=>
    have HR:=aB (show bdR false ind t=([],1) by simp [bdR]);go_wp2;go_ret2;exact ⟨.slice none 0 0,by rw [HR.out];rfl,by rw [HR.out];exact DfR.nil _ _,G1.out⟩
  | true=>
    obtain ⟨hN,h2,g5,d8⟩:=H1.out rfl;obtain ⟨D,hD⟩:∃ D,D=(S.alloc (Obj.cells #[.slice none 0 0,.int .i64 100000,.bool false] 54)).drew:=⟨_,rfl⟩;have gD:S.grownBy D none:=(by rw [hD];exact aA gWA ⟨rfl,rfl,rfl,Nat.le_refl _,fun _ _ _=>rfl⟩);have sD:D.heap.size=S.heap.size+1:=(by rw [hD];simp);have b0:D.cell? ⟨S.heap.size,0,none⟩=some (.slice none 0 0):=(by rw [hD];simp [go_sem]);have b1:D.cell? ⟨S.heap.size,1,none⟩=some (.int .i64 100000):=(by rw [hD];simp [go_sem]);have b2:D.cell? ⟨S.heap.size,2,none⟩=some (.bool false):=(by rw [hD];simp [go_sem]);have bf:∀ j,D.frozen? ⟨S.heap.size,j,none⟩=false:=fun j=>by rw [hD];simp [go_sem]
    have d3:=aA G1.out gD;have f6:=aB (aAC na t.N.length y ind D);obtain ⟨I,hI⟩:∃ I:World->Prop,I=(fun U:World=>U.cell? ⟨w.heap.size,0,none⟩=some (.slice na t.N.length y)/\U.cell? ⟨w.heap.size,1,none⟩=some (.slice ta t.tail.length G)):=⟨_,rfl⟩;have E:I D:=(by rw [hI];exact ⟨gD.cell q0 (by simp),gD.cell q1 (by simp)⟩);have HR:=aB (show bdR true ind t=if dU (dT ind t)=true then ([],4) else (dT ind t,0) by unfold bdR;rw [if_pos ⟨rfl,a9⟩]);have g7:=aB (aLI ind t d8)
    go_wp2_with fail
    refine aZ I (fun _=>false) (by kernel_rfl) ?_;rw [<- hD]
    show fJ _ _ _ _ _ _ 8 (Array.replicate 8 false) _ _
    refine bK (i:=0) (.pointer (some ⟨w.heap.size,0,none⟩)) rfl E (bB rfl (fun U hU=>by go_simp)) ?_;refine bK (i:=1) (.slice na t.N.length y) rfl E (bB rfl (fun U hU=>by rw [hI] at hU;obtain ⟨h0,h1⟩:=hU;go_simp)) ?_;refine bK (i:=2) (.int .i64 ind) rfl E (bB rfl (fun U hU=>by go_simp)) ?_;refine bK (i:=4) (.pointer (some ⟨w.heap.size,1,none⟩)) rfl E (bB rfl (fun U hU=>by go_simp)) ?_;refine bK (i:=5) (.slice ta t.tail.length G) rfl E (bB rfl (fun U hU=>by rw [hI] at hU;obtain ⟨h0,h1⟩:=hU;go_simp)) ?_;generalize hG:Act.put _ _ _=A0;simp [Act.put] at hG;subst hG;refine aD (i:=3) (by kernel_rfl) (dY rfl rfl (by go_simp) f6.out ?_);rintro e w2 ⟨rfl,d4,g2⟩;have A:=aA d3 g2;have Z:I w2:=(by rw [hI] at E ⊢;exact ⟨g2.cell E.1 (by simp),g2.cell E.2 (by simp)⟩);refine ⟨_,rfl,.inr Z,?_⟩;have s2:=g2.size;have d1:Sx D.heap.size w.heap.size ind m w2 (.slice na t.N.length y) t.N:=⟨d4,HN.out.K A,HT.out.K A,A.cell HM.out (by simp)⟩;have f4:=aB (aGz D.heap.size w.heap.size ind m (by omega) (by omega) t.N t.tail (.slice na t.N.length y) (.slice ta t.tail.length G) w2 d1 hN d8 (g6.out.K A) h2 g5);refine aD (i:=6) (by kernel_rfl) (dY rfl rfl (by go_simp) f4.out ?_);rintro e w3 ⟨f,f3,rfl,c2,X⟩;have c0:I w3:=(by rw [hI] at Z ⊢;exact ⟨X.cell Z.1 (by simp;omega),X.cell Z.2 (by simp;omega)⟩);refine ⟨_,rfl,.inr c0,?_⟩;refine aD (i:=7) (by kernel_rfl) (aF (w':=w3) (v:=.func (.func f) #[] f3) rfl rfl (by go_simp) ⟨.inr c0,?_⟩);refine bL (by kernel_rfl) ?_ _;have a8:some S.heap.size≠some D.heap.size:=(by simp;omega);have e0:=X.cell (g2.cell b0 (by simp)) a8;have e1:=X.cell (g2.cell b1 (by simp)) a8;have e2:=X.cell (g2.cell b2 (by simp)) a8
    have ef:∀ j,w3.frozen? ⟨S.heap.size,j,none⟩=false:=fun j=>by
     rw [World.frozen?_of_block (X.block S.heap.size (by omega) a8),World.frozen?_of_block (g2.block S.heap.size (by omega) (by simp))];exact bf j
    have f5:gG w3.heap.size w3 S.heap.size ([],false):=⟨⟨_,e0,DfR.nil _ _⟩,by simpa [cM] using e1,e2,ef,by simp,by simp [cM]⟩;have s3:=X.size;have k4:=c2.1;have a7:=aB (c2.2.2 w3.heap.size S.heap.size w3 ([],false) (fun k hk=>⟨hk.2,by have:=hk.1;omega,rfl⟩) f5 (by omega) (Nat.le_refl _));rw [g7.out] at a7;have G3:Hid (w.grownBy w3 none):=⟨X.os.trans A.os,X.tape.trans A.tape,X.output.trans A.output,Nat.le_trans A.size X.size,fun k hk _=>(X.block k (by omega) (by simp;omega)).trans (A.block k hk (by simp))⟩;subst hI;clear f4 f6 d1 d4 g2 X A d3 gD hD b0 b1 b2 bf e0 e1 e2 ef f5 c2 E Z c0 q0 q1
    go_wp2_with fail
    refine a7.out.mono ?_;rintro e w4 ⟨rfl,b3,J⟩;obtain ⟨c1,c5⟩:=aH4 (dT ind t);obtain ⟨dv,d0,Y⟩:=b3.v;have d2:=b3.f;have s4:=J.size;have G4:Hid (w.grownBy w4 none):=⟨J.os.trans G3.out.os,J.tape.trans G3.out.tape,J.output.trans G3.out.output,Nat.le_trans G3.out.size J.size,fun k hk _=>(J.block k (by omega) (by omega)).trans (G3.out.block k hk (by simp))⟩;rw [c1] at d2;cases M:dU (dT ind t) with
    | true=>
      rw [M] at d2;have a4:=aB (show bdR true ind t=([],4) by rw [HR.out,M];rfl);clear HR M c1 c5 Y d0 b3 J a7;go_wp2;go_ret2;exact ⟨.slice none 0 0,by rw [a4.out];rfl,by rw [a4.out];exact DfR.nil _ _,G4.out⟩
    | false=>
      rw [M] at d2;have a4:=aB (show bdR true ind t=(dT ind t,0) by rw [HR.out,M];rfl);rw [c5 M] at Y;obtain ⟨da,dc,d7⟩:=Y.sl;have h3:=aB (Y.base (H':=w.heap.size) (by omega));generalize (dT ind t).length=DL at d7;subst d7;clear HR M c1 c5 Y b3 J a7;go_wp2;go_ret2;exact ⟨.slice da DL dc,by rw [a4.out];rfl,by rw [a4.out];exact h3.out,G4.out⟩
 ·have a5:decide (0<=ind/\ind<=16)=false:=(by simpa using a9);have HR:=aB (show bdR vv ind t=([],1) by unfold bdR;rw [if_neg (fun h=>a9 h.2)])
  go_enter func8,ntmps8
  go_wp2_with fail
  refine (HW.out _).mono ?_;rintro e w0 ⟨rfl,c3⟩;rw [a5];subst c3;clear HW HV;go_wp2;go_ret2;exact ⟨.slice none 0 0,by rw [HR.out];rfl,by rw [HR.out];exact DfR.nil _ _,GA.out⟩
end Go.Proofs.YtmfehflibkokbaaGreatDoor
namespace Go.Proofs.YtmfehflibkokbaaGreatDoor
open Go.Proofs.Tryz
open Go.RowKit
structure PT where
 T:Tr
 n:Nat
 ind:Int
 fl:Bool
 bw:Int
 be:Bool
def Tk.pt (t:Tk):PT:=⟨t.T,t.n,t.ind,t.fl,t.bw,t.be⟩
def pm (d:Nat->Int->Bool):Nat->List PT->List Int->Int->List Int->List Int × List Int
 | 0,_,tx,_,ch=>(tx,ch)
 | _+1,[],tx,_,ch=>(tx,ch)
 | f+1,⟨.leaf p,_,ind,fl,_,_⟩::r,tx,col,ch=>
   if (brk (.leaf p) ind fl).2=true then pm d f r (tx++[10]++List.replicate (brk (.leaf p) ind fl).1.toNat 32) (brk (.leaf p) ind fl).1 ch
   else if p.k=1 then pm d f r (tx++p.t) (col+aI p.t) ch
   else if p.k=2 then pm d f r (tx++[32]) (col+1) ch
   else pm d f r tx col ch
 | f+1,⟨.un p x,n,ind,fl,bw,be⟩::r,tx,col,ch=>
   if p.k=7 then pm d f (⟨x,n,ind+p.n,fl,bw,be⟩::r) tx col ch
   else pm d f (⟨x,n,ind,fl||pV (flatW x) col bw (d (n+bV x)),bw,be⟩::r) tx col (ch.set (n+bV x) (if (fl||pV (flatW x) col bw (d (n+bV x)))=true then 1 else 2))
 | f+1,⟨.bin p x y,n,ind,fl,bw,be⟩::r,tx,col,ch=>
   if p.k=6 then pm d f (⟨x,n,ind,fl,if (leadT y).2=true then (leadT y).1 else (leadT y).1+bw,if (leadT y).2=true then (leadT y).2 else be⟩::⟨y,n+bV x,ind,fl,bw,be⟩::r) tx col ch
   else pm d f (⟨if fl then y else x,if fl then n+bV x else n,ind,fl,bw,be⟩::r) tx col ch
def szS (its:List Tk):Nat:=szs (its.map (·.T))
theorem aW (t:Tk) (r:List Tk):szS (t::r)=sz t.T+szS r:=rfl
theorem aCG:∀ (r:List Tk),r.length<=szS r
 | []=>Nat.le_refl _
 | t::r=>by have:=aCG r;have:=sT t.T;rw [aW,List.length_cons];omega
def aLY:List Tk->Prop
 | []=>True
 | t::r=>(-(szS r:Int)<=t.bw/\t.bw<=szS r)/\aLY r
structure aHR (B:Nat) (wm:World) (l:List Value) (G:Nat) (t:Tk):Prop where
 node:cA B wm l t.v t.T t.n
 ok:okN t.T
 lo:0<=t.ind
 hi:t.ind+dK t.T<=4000
 gb:t.n+bV t.T<=G
structure pT (B:Nat) (wm:World) (l:List Value) (G:Nat) (its:List Tk) (tx:List Int) (col:Int) (ch:List Int):Prop where
 tok:∀ t∈its,aHR B wm l G t
 bw:aLY its
 tot:szS its<=140000
 clen:ch.length=G
 lo : -(140000 - (szS its:Int))<=col
 hi:col<=4000+(140000 - (szS its:Int))
 tl:tx.length+4001*szS its<=4001*140000
theorem aLB {T:Tr} {ind:Int} {fl:Bool} (y:0<=ind) (h:ind<=4000):0<=(brk T ind fl).1/\(brk T ind fl).1<=4000:=by
 unfold brk
 split
 ·split
  ·exact ⟨y,h⟩
  ·split
   ·exact ⟨y,h⟩
   ·split<;>simp
 ·simp
theorem pT.line {B:Nat} {wm:World} {l:List Value} {G:Nat} {t:Tk} {r:List Tk} {tx:List Int} {col:Int} {ch:List Int} (h:pT B wm l G (t::r) tx col ch) (i:Int) (D:0<=i) (A:i<=4000) :
  pT B wm l G r (tx++[10]++List.replicate i.toNat 32) i ch:=by
 obtain ⟨a,b,c,d,e,f,g⟩:=h;rw [aW] at c e f g;have:=sT t.T;refine ⟨fun t y=>a t (List.mem_cons_of_mem _ y),b.2,by omega,d,by omega,by omega,?_⟩;simp only [List.length_append,List.length_cons,List.length_nil,List.length_replicate];omega
theorem pT.put {B:Nat} {wm:World} {l:List Value} {G:Nat} {t:Tk} {r:List Tk} {tx:List Int} {col:Int} {ch:List Int} (h:pT B wm l G (t::r) tx col ch) (s:List Int) (y:Int) (D:s.length<=sz t.T) (E : -(sz t.T:Int)<=y) (J:y<=sz t.T) :
  pT B wm l G r (tx++s) (col+y) ch:=by
 obtain ⟨a,b,c,d,e,f,g⟩:=h;rw [aW] at c e f g;refine ⟨fun t A=>a t (List.mem_cons_of_mem _ A),b.2,by omega,d,by omega,by omega,?_⟩;simp only [List.length_append];omega
theorem pT.one {B:Nat} {wm:World} {l:List Value} {G:Nat} {t u:Tk} {r:List Tk} {tx:List Int} {col:Int} {ch y:List Int} (h:pT B wm l G (t::r) tx col ch) (D:aHR B wm l G u) (E:u.bw=t.bw) (A:sz u.T<sz t.T) (J:y.length=ch.length) :
  pT B wm l G (u::r) tx col y:=by
 obtain ⟨a,b,c,d,e,f,g⟩:=h;rw [aW] at c e f g;refine ⟨fun s A=>?_,⟨by rw [E];exact b.1,b.2⟩,by rw [aW];omega,by omega,by rw [aW];omega,by rw [aW];omega,by rw [aW];omega⟩;rcases List.mem_cons.1 A with rfl | A
 ·exact D
 ·exact a s (List.mem_cons_of_mem _ A)
theorem pT.two {B:Nat} {wm:World} {l:List Value} {G:Nat} {t u y:Tk} {r:List Tk} {tx:List Int} {col:Int} {ch:List Int} (h:pT B wm l G (t::r) tx col ch) (J:aHR B wm l G u) (D:aHR B wm l G y) (E:y.bw=t.bw)
  (N:u.bw=if (leadT y.T).2=true then (leadT y.T).1 else (leadT y.T).1+t.bw) (A:sz u.T+sz y.T<sz t.T):pT B wm l G (u::y::r) tx col ch:=by
 obtain ⟨a,b,c,d,e,f,g⟩:=h;rw [aW] at c e f g;have O:=lA fP y.T;have M:=b.1;refine ⟨fun s A=>?_,⟨?_,⟨by rw [E];exact b.1,b.2⟩⟩,by rw [aW,aW];omega,by omega,by rw [aW,aW];omega,by rw [aW,aW];omega,by rw [aW,aW];omega⟩
 ·rcases List.mem_cons.1 A with rfl | A
  ·exact J
  ·rcases List.mem_cons.1 A with rfl | A
   ·exact D
   ·exact a s (List.mem_cons_of_mem _ A)
 ·rw [N,aW]
  split<;>omega
theorem aHL (B pb:Nat) (wm w:World) (l:List Value) (a0 a1 a2 a3 wv tv hv:Value) (ts:List Tk) (tx:List Int) (col:Int) (ch:List Int) (h:Pr pb wm w a0 a1 a2 a3 wv tv hv ts tx col ch)
  (v:Value) (p:Pc) (n:Nat) (ind:Int) (fl:Bool) (S:Int) (be:Bool) (A:cA B wm l v (.leaf p) n) (hk:p.k=0\/p.k=3) :
  Calls prog 87 #[.pointer (some ⟨pb,0,none⟩),mS v ind fl S be] w fun e w'=>e=.returned (.tuple #[])/\Pr pb wm w' a0 a1 a2 a3 wv tv hv ts tx col ch:=by
 have D:=A.rep;simp only [Rep] at D;have E:=bH h;have Y:=h.lt;unfold mS;clear h A;rcases D with h | h | h | h | h | ⟨h1,b,tv',h,_⟩
 ·obtain ⟨N,Z,J,G,X,M,e7,U,O,y⟩:=nN;rw [h.2];clear h
  go_enter func87,ntmps87
  go_wp2
  go_returns
  exact ⟨rfl,E.out.K gWA⟩
 ·omega
 ·obtain ⟨N,Z,J,G,X,M,e7,U,O,y⟩:=qP;rw [h.2];clear h
  go_enter func87,ntmps87
  go_wp2
  go_returns
  exact ⟨rfl,E.out.K gWA⟩
 ·omega
 ·omega
 ·omega
theorem aIK (B pb:Nat) (wm w:World) (b8:pb=wm.heap.size) (l:List Value) (a0 a1 a2 a3 wv tv hv:Value) (ts:List Tk) (tx:List Int) (col:Int) (ch:List Int) (h:Pr pb wm w a0 a1 a2 a3 wv tv hv ts tx col ch)
  (v:Value) (p:Pc) (n:Nat) (ind:Int) (fl:Bool) (bw:Int) (be:Bool) (hn:cA B wm l v (.leaf p) n) (hk:p.k=1) (hB:B<=pb) (c9 : -1000000<=col/\col<=1000000) (hl:tx.length+p.t.length<=700000000) :
  Calls prog 87 #[.pointer (some ⟨pb,0,none⟩),mS v ind fl bw be] w fun e w'=>e=.returned (.tuple #[])/\∃ tv',Pr pb wm w' a0 a1 a2 a3 wv tv' hv ts (tx++p.t) (col+aI p.t) ch:=by
 subst b8;have hr:=hn.rep;simp only [Rep] at hr;rcases hr with h | h | h | h | h | ⟨h1,b,sv,b2,_,b6,S,Z,a8⟩
 ·omega
 ·omega
 ·omega
 ·omega
 ·omega
 subst b2;obtain ⟨e1,e2,e3,e4,e5,e6,e7,e8,e9,c7⟩:=qG (.pointer (some ⟨b,0,none⟩));have E:=aC h.bel;have a5:wm.cell? ⟨b,0,none⟩=some sv:=(by simp [World.cell?,S]);have J:wm.cell? ⟨b,1,none⟩=some (.int .i64 (aI p.t)):=(by simp [World.cell?,S]);have d2:=iU (E.cell a5 (by simp));have b7:=iU (E.cell J (by simp));have d4:=h.lt;have HP:=bH h;have d5:=fP p.t;have gA:w.grownBy (w.alloc (.cells #[.iface 67 (.pointer (some ⟨b,0,none⟩)),.int .i64 ind,.bool fl,.int .i64 bw,.bool be] 154)).drew none:=dR gWA;have y:=h.K gA;obtain ⟨tv',w2,a4,O,A,M⟩:=wW (wm.heap.size+1) B (w.alloc (.cells #[.iface 67 (.pointer (some ⟨b,0,none⟩)),.int .i64 ind,.bool fl,.int .i64 bw,.bool be] 154)).drew tv sv tx p.t y.trow (Z.K (aA E gA)) (by have:=y.lt;omega) (by omega);have U:=World.ownsRow.lt y.trow;have G:some wm.heap.size≠tv.ownBlock:=fun e=>by have:=U _ e.symm;omega
 have Y:tv.ownBlock≠some b:=fun e=>by have:=U _ e;omega
 have x5:=A.cell y.c5 G;have y5:w2.frozen? ⟨wm.heap.size,5,none⟩=false:=(World.frozen?_of_block (A.block wm.heap.size y.lt G)).trans (y.fz 5);have D:=Pr.X y A O (M.imp id fun e=>⟨_,e,Nat.le_refl _⟩);have b4:=bH D;have d8:b≠wm.heap.size:=(by omega);have d9:IntKind.i64.wrap (col+aI p.t)=col+aI p.t:=by simp [IntKind.wrap,IntKind.bits,IntKind.signed];omega
 have c4:(w2.setCell ⟨wm.heap.size,5,none⟩ tv').cell? ⟨b,1,none⟩=some (.int .i64 (aI p.t)):=by
  exact (D.bel.cell (p:=⟨b,1,none⟩) b6).trans J
 have d3:=A.cell ((aA E gA).cell J (by simp)) (fun e=>Y e.symm);have d6:=D.c6;have z6:=D.fz 6;have d1:=A.cell y.c6 G;have d0:w2.frozen? ⟨wm.heap.size,6,none⟩=false:=(World.frozen?_of_block (A.block wm.heap.size y.lt G)).trans (y.fz 6);obtain ⟨c8,b0,N,_,_⟩:=aU O;rw [List.length_append] at N;obtain ⟨ta,c0,b3,_,_⟩:=aU h.trow;obtain ⟨sa,c2,b5,_,_⟩:=a8;have d7:=iU h.c5;unfold mS;subst N b3 b5;generalize aI p.t=wd at *;clear h hn y D A O M gA Z S a5 J E b7
 go_enter func87,ntmps87
 go_wp2_with fail
 go_region_law (refine qW rfl (.tmp 19) (.tmp 23) 22 rfl _ _ _ _ (by simp [Act.eval]) (by simp [Act.eval]) a4 ?_)
 all_goals
  go_simp
  go_wp2
  go_region
  all_goals
   go_wp2
   go_returns
   exact ⟨rfl,_,(b4.out.column (col+wd)).K (dR (World.grownBy.refl _ _))⟩
theorem aGP (B pb:Nat) (wm w:World) (b7:pb=wm.heap.size) (l:List Value) (a0 a1 a2 a3 wv tv hv:Value) (ts:List Tk) (tx:List Int) (col:Int) (ch:List Int) (h:Pr pb wm w a0 a1 a2 a3 wv tv hv ts tx col ch)
  (v:Value) (p:Pc) (n:Nat) (ind:Int) (fl:Bool) (M:Int) (N:Bool) (hn:cA B wm l v (.leaf p) n) (hk:p.k=2) (c9 : -1000000<=col/\col<=1000000) (hl:tx.length<=700000000) :
  Calls prog 87 #[.pointer (some ⟨pb,0,none⟩),mS v ind fl M N] w fun e w'=>e=.returned (.tuple #[])/\∃ tv',Pr pb wm w' a0 a1 a2 a3 wv tv' hv ts (tx++[32]) (col+1) ch:=by
 subst b7;have hr:=hn.rep;simp only [Rep] at hr
 have b0:v=.iface 73 (.agg #[]):=by
  rcases hr with h | h | h | h | h | ⟨h1,b,tv',h,_⟩
  ·omega
  ·exact h.2
  ·omega
  ·omega
  ·omega
  ·omega
 subst b0;obtain ⟨e1,e2,e3,e4,e5,e6,e7,e8,e9,c8⟩:=qN;have d4:=h.lt;have HP:=bH h;obtain ⟨i0,hi,b8,a5,b5⟩:=info_parts mF;have gA:w.grownBy ((w.alloc (.cells #[.iface 73 (.agg #[]),.int .i64 ind,.bool fl,.int .i64 M,.bool N] 154)).alloc (.cells #[] 73)) none:=aA gWA gWA;have D:=h.K gA;have b6:=bH D;have a6:=World.ownsRow.lt D.trow;have Y:tv.ownBlock≠some wm.heap.size:=fun e=>by have:=a6 wm.heap.size e;omega
 have Z:=bH Y;have J:((w.alloc (.cells #[.iface 73 (.agg #[]),.int .i64 ind,.bool fl,.int .i64 M,.bool N] 154)).alloc (.cells #[] 73)).ownsRow (wm.heap.size+1) 5 1 tv tx.length (tx.map (Value.int .u8)):=D.trow;have U:=bH J;have c5:=D.c5;have d8:=h.c5;have f5:=D.fz 5;have c4:¬ wm.heap.size=w.heap.size:=(by omega);have d1:¬ wm.heap.size=w.heap.size+1:=(by omega);have c7:¬ w.heap.size=wm.heap.size:=(by omega);have d9:¬ w.heap.size+1=wm.heap.size:=(by omega);have S:=D.lt;have gI:((w.alloc (.cells #[.iface 73 (.agg #[]),.int .i64 ind,.bool fl,.int .i64 M,.bool N] 154)).alloc (.cells #[] 73)).grownBy (((w.alloc (.cells #[.iface 73 (.agg #[]),.int .i64 ind,.bool fl,.int .i64 M,.bool N] 154)).alloc (.cells #[] 73)).alloc (.cells #[.int .u8 32] 5)) none:=gWA;have a9:=gI.cell c5 (by simp);have a7:(((w.alloc (.cells #[.iface 73 (.agg #[]),.int .i64 ind,.bool fl,.int .i64 M,.bool N] 154)).alloc (.cells #[] 73)).alloc (.cells #[.int .u8 32] 5)).frozen? ⟨wm.heap.size,5,none⟩=false:=(World.frozen?_of_block (gI.block wm.heap.size S (by simp))).trans f5;have GI:=bH gI;have O:=pD ((w.alloc (.cells #[.iface 73 (.agg #[]),.int .i64 ind,.bool fl,.int .i64 M,.bool N] 154)).alloc (.cells #[] 73)) (.int .u8 32) 5;simp only [World.size_alloc] at O;have b2:=bH O;obtain ⟨ta,b9,b1,_,_⟩:=aU h.trow;subst b1;unfold mS;clear h hn hr D J Y gA gI O
 go_enter func87,ntmps87
 go_wp2_with (at_builtin;refine wpList_append_own_at _ rfl _ _ 22 rfl (wm.heap.size+1) 5 i0 (.int .u8 0) 1 1 underlying22 hi b8 a5 b5 rfl (by decide) _ _ _ rfl (World.ownsRow.alloc U.out _) ⟨w.heap.size+1+1,0,none⟩ 1 1 [.int .u8 32] rfl rfl b2.out (by intro u hu;simp at hu;subst hu;rfl) (by unfold maxLen;omega) (by omega) (by simp;omega) ?_)
 intro v1 w1 A y _ G;have x5:=y.cell a9 (fun e=>Z.out e.symm);have y5:w1.frozen? ⟨wm.heap.size,5,none⟩=false:=(World.frozen?_of_block (y.block wm.heap.size (by simp;omega) (fun e=>Z.out e.symm))).trans a7;have E:=Pr.X (b6.out.K GI.out) (tv':=v1) (tx':=tx++[32]) y (by unfold OwB Ow;rw [List.map_append,List.length_append];exact A) (G.imp id fun e=>⟨_,e,by simp⟩);have d6:=E.c6;have z6:=E.fz 6;have b3:=bH E;obtain ⟨va,c1,a8,_,_⟩:=aU A;subst a8;clear E A y G;go_wp2
 go_returns
 exact ⟨rfl,_,b3.out.column (col+1)⟩
theorem aGl (B pb:Nat) (wm w:World) (f5:pb=wm.heap.size) (l:List Value) (fb lb nb:Nat) (f0 f1 f2:Value->Option Value) (hC:Ctx B wm l fb lb nb f0 f1 f2) (cf:Nat) (cap:Value) (wv tv:Value) (g N lc:Nat) (ts:List Tk) (tx:List Int) (col:Int) (ch:List Int)
  (h:Pr pb wm w (.map (some fb)) (.map (some lb)) (.map (some nb)) (.func (.func cf) #[] #[cap]) wv tv (.slice (some ⟨g,0,none⟩) lc N) ts tx col ch) (hE:∀ (args:Array Value) (W:World),(callFunc cf args).run prog W=.ok (.enter cf args) W)
  (v:Value) (p:Pc) (x:Tr) (n:Nat) (ind:Int) (fl:Bool) (A:Int) (Z:Bool) (hn:cA B wm l v (.un p x) n) (hk:p.k=8) (hl:ts.length<=1000000) (c8:lc=ch.length) (hj:n+bV x<ch.length) (c3:ch.length<=1000000) (d:Int->Bool)
  (a7:∀ W,wm.grownBy W none->Calls prog cf #[.int .i64 ((n+bV x:Nat):Int),.int .i64 (col+flatW x+A),cap] W fun e w'=>e=.returned (.bool (d (col+flatW x+A)))/\W=w')
  (c9 : -1<=flatW x/\flatW x<=1000000) (d2 : -1000000<=col/\col<=1000000) (d5 : -1000000<=A/\A<=1000000) :
  Calls prog 87 #[.pointer (some ⟨pb,0,none⟩),mS v ind fl A Z] w fun e w'=>e=.returned (.tuple #[])/\∃ u wv',cA B wm l u x n/\
   Pr pb wm w' (.map (some fb)) (.map (some lb)) (.map (some nb)) (.func (.func cf) #[] #[cap]) wv' tv (.slice (some ⟨g,0,none⟩) lc N) (ts++[⟨u,x,n,ind,fl||pV (flatW x) col A d,A,Z⟩]) tx col (ch.set (n+bV x) (if (fl||pV (flatW x) col A d)=true then 1 else 2)):=by
 subst f5;subst c8;obtain ⟨b,u,c0,hu,c7⟩:=hn.un;rcases c7 with ⟨_,b5,d1⟩ | ⟨h1,_⟩
 rotate_left
 ·omega
 have b9:=d1 f2 hC.t2;have d4:sJ b∈l:=(by rw [<- b5];exact hn.mem);have a4:=aC h.bel;have D:∀ W,wm.grownBy W none->_:=fun W O=>hC.num (W:=W) d4 b9 O;have M:∀ W,wm.grownBy W none->_:=fun W O=>hC.flat (W:=W) hn O;have h4:=iU (a4.cell c0 (by simp));have a6:b<wm.heap.size:=World.block_lt_of_cell? wm _ c0;obtain ⟨tu,yu,b0⟩:=hu.rep.form;subst b0;subst b5;obtain ⟨e1,e2,e3,e4,e5,e6,e7,e8,e9,h9⟩:=nS (.pointer (some ⟨b,0,none⟩));have i0:=h.lt;have d6:=World.ownsRow.lt h.wrow;have d8:=World.ownsRow.lt h.trow;have b7:=World.ownsRow.lt h.hrow;have h8:=b7 g rfl;have HP:=bH h;have HU:=bH hu;have c1:∀ o,w.grownBy (w.alloc o) none:=fun o=>gWA;have HO:=bH (fun d0=>vR 185 tu (.pointer (some ⟨b,0,none⟩)) yu ind d0 A Z);unfold mS sJ at *;cases fl
 ·have c4:Hid (∀ W,w.grownBy W none->_):=fun W O=>aDM wm.heap.size wm W fb nb cf (.map (some lb)) cap wv tv _ ts tx col ch (h.K O) b A Z (flatW x) (fun W' Y=>M W' (aA a4 (aA O Y))) (n+bV x) (fun W' Y=>D W' (aA a4 (aA O Y))) d (fun W' Y=>a7 W' (aA a4 (aA O Y))) hE c9 d2 d5;generalize pV (flatW x) col A d=cr at *;have X:=bH D;clear h hn hu M a7 D c1
  go_enter func87,ntmps87
  go_wp2_with fail
  refine (c4.out _ gWA).mono ?_;rintro e w2 ⟨rfl,g2⟩;have t0:=g2.cell (a:=⟨w.heap.size,0,none⟩) (v:=.iface 185 (.pointer (some ⟨b,0,none⟩))) (by simp [go_sem]) (by simp);have t1:=g2.cell (a:=⟨w.heap.size,1,none⟩) (v:=.int .i64 ind) (by simp [go_sem]) (by simp);have t2:=g2.cell (a:=⟨w.heap.size,2,none⟩) (v:=.bool false) (by simp [go_sem]) (by simp);have t3:=g2.cell (a:=⟨w.heap.size,3,none⟩) (v:=.int .i64 A) (by simp [go_sem]) (by simp);have t4:=g2.cell (a:=⟨w.heap.size,4,none⟩) (v:=.bool Z) (by simp [go_sem]) (by simp);have z2:w2.frozen? ⟨w.heap.size,2,none⟩=false:=(World.frozen?_of_block (g2.block w.heap.size (by simp) (by simp))).trans (by simp [go_sem]);have U:w.grownBy w2 none:=aA gWA g2;have d9:=g2.size;simp only [World.size_alloc] at d9;have J:=(HP.out.K U).aside w.heap.size 2 (.bool cr) (by omega) (fun e=>by have:=d6 _ e;omega) (fun e=>by have:=d8 _ e;omega) (fun e=>by have:=b7 _ e;omega);have hN:=aDS wm.heap.size wm _ _ _ nb _ _ _ g N ch.length ts tx col ch J b cr (n+bV x) (fun W O=>X.out W (aA (aC J.bel) O)) rfl hj c3;clear g2 U J
  go_wp2_with fail
  refine hN.mono ?_;rintro e w4 ⟨rfl,G,a9,S⟩;have y:=S w.heap.size (by omega);simp only [World.size_setCell] at a9;have s0:=(World.cell?_of_block (a:=⟨w.heap.size,0,none⟩) y).trans (show _=some (Value.iface 185 (.pointer (some ⟨b,0,none⟩))) by simp [go_sem,t0]);have s1:=(World.cell?_of_block (a:=⟨w.heap.size,1,none⟩) y).trans (show _=some (Value.int .i64 ind) by simp [go_sem,t1]);have s2:=(World.cell?_of_block (a:=⟨w.heap.size,2,none⟩) y).trans (show _=some (Value.bool cr) by simp [go_sem,t2]);have s3:=(World.cell?_of_block (a:=⟨w.heap.size,3,none⟩) y).trans (show _=some (Value.int .i64 A) by simp [go_sem,t3]);have s4:=(World.cell?_of_block (a:=⟨w.heap.size,4,none⟩) y).trans (show _=some (Value.bool Z) by simp [go_sem,t4]);have n0:=(G.bel.cell (p:=⟨b,0,none⟩) a6).trans c0;have a8:=bH G;clear G S y hN t0 t1 t2 t3 t4 z2
  go_wp2_with fail
  go_region_with (first | (go_at_call 118;refine (HO.out cr _).mono ?_;rintro e w6 ⟨rfl,g6⟩) | (go_at_call 83;refine (jI _ wm w6 _ _ _ _ _ _ _ _ _ _ _ (a8.out.K (aA (dR (World.grownBy.refl _ _)) g6)) ⟨.iface tu yu,x,n,ind,cr,A,Z⟩ ⟨_,_,rfl⟩ hl).mono ?_;rintro e w7 ⟨rfl,⟨b1,E,_⟩,_,_⟩))
  all_goals
   go_wp2
   all_goals
    go_returns
    refine ⟨rfl,.iface tu yu,HU.out,b1,?_⟩
    first
     | (have e:cr=true:=by assumption
        rw [e] at E;exact E)
     | (have e:cr=false:=by assumption
        rw [e] at E;exact E)
     | (have e:¬ cr=true:=by assumption
        rw [Bool.not_eq_true] at e;rw [e] at E;exact E)
 ·have X:=bH D;clear h hn hu M a7 D c1;generalize pV (flatW x) col A d=cr at *;have U:w.grownBy (w.alloc (.cells #[.iface 185 (.pointer (some ⟨b,0,none⟩)),.int .i64 ind,.bool true,.int .i64 A,.bool Z] 154)) none:=gWA;have J:=HP.out.K U;have hN:=aDS wm.heap.size wm _ _ _ nb _ _ _ g N ch.length ts tx col ch J b true (n+bV x) (fun W O=>X.out W (aA (aC J.bel) O)) rfl hj c3;clear U J
  go_enter func87,ntmps87
  go_wp2_with fail
  refine hN.mono ?_;rintro e w4 ⟨rfl,G,a9,S⟩;have y:=S w.heap.size (by omega);simp only [World.size_alloc] at a9;have s0:=(World.cell?_of_block (a:=⟨w.heap.size,0,none⟩) y).trans (show _=some (Value.iface 185 (.pointer (some ⟨b,0,none⟩))) by simp [go_sem]);have s1:=(World.cell?_of_block (a:=⟨w.heap.size,1,none⟩) y).trans (show _=some (Value.int .i64 ind) by simp [go_sem]);have s2:=(World.cell?_of_block (a:=⟨w.heap.size,2,none⟩) y).trans (show _=some (Value.bool true) by simp [go_sem]);have s3:=(World.cell?_of_block (a:=⟨w.heap.size,3,none⟩) y).trans (show _=some (Value.int .i64 A) by simp [go_sem]);have s4:=(World.cell?_of_block (a:=⟨w.heap.size,4,none⟩) y).trans (show _=some (Value.bool Z) by simp [go_sem]);have n0:=(G.bel.cell (p:=⟨b,0,none⟩) a6).trans c0;have a8:=bH G;clear G S y hN
  go_wp2_with fail
  go_region_with (first | (go_at_call 118;refine (HO.out true _).mono ?_;rintro e w6 ⟨rfl,g6⟩) | (go_at_call 83;refine (jI _ wm w6 _ _ _ _ _ _ _ _ _ _ _ (a8.out.K (aA (dR (World.grownBy.refl _ _)) g6)) ⟨.iface tu yu,x,n,ind,true,A,Z⟩ ⟨_,_,rfl⟩ hl).mono ?_;rintro e w7 ⟨rfl,⟨b1,E,_⟩,_,_⟩))
  all_goals
   go_wp2
   go_returns
   exact ⟨rfl,.iface tu yu,HU.out,b1,E⟩
theorem cA.iface {B:Nat} {wm:World} {l:List Value} {v:Value} {T:Tr} {n:Nat} (h:cA B wm l v T n):∃ D u,v=.iface D u:=by
 have A:=h.rep;cases T with
 | leaf p=>
   simp only [Rep] at A;rcases A with h | h | h | h | h | ⟨_,b,tv,h,_⟩
   ·exact ⟨_,_,h.2⟩
   ·exact ⟨_,_,h.2⟩
   ·exact ⟨_,_,h.2⟩
   ·exact ⟨_,_,h.2⟩
   ·exact ⟨_,_,h.2⟩
   ·exact ⟨_,_,h⟩
 | un p x=>
   obtain ⟨b,u,_,_,h⟩:=h.un;rcases h with ⟨_,h,_⟩ | ⟨_,h,_⟩
   ·exact ⟨_,_,h⟩
   ·exact ⟨_,_,h⟩
 | bin p x y=>
   obtain ⟨b,u,E,_,_,_,_,h⟩:=h.bin;rcases h with ⟨_,h⟩ | ⟨_,h⟩
   ·exact ⟨_,_,h⟩
   ·exact ⟨_,_,h⟩
theorem cA.leafK {B:Nat} {wm:World} {l:List Value} {v:Value} {p:Pc} {n:Nat} (h:cA B wm l v (.leaf p) n):0<=p.k/\p.k<=5:=by
 have y:=h.rep;simp only [Rep] at y;rcases y with h | h | h | h | h | ⟨h,_⟩
 all_goals first | omega | (have:=h.1;omega)
theorem aJC (B pb:Nat) (wm w:World) (Z:pb=wm.heap.size) (hB:B<=pb) (l:List Value) (fb lb nb:Nat) (f0 f1 f2:Value->Option Value) (hC:Ctx B wm l fb lb nb f0 f1 f2) (cf:Nat) (cap wv tv hv:Value) (G:Nat) (hG:G<=1000000) (hE:∀ (args:Array Value) (W:World),(callFunc cf args).run prog W=.ok (.enter cf args) W) (d:Nat->Int->Bool) (b6:∀ (j:Nat) (a5:Int) (W:World),j<G->wm.grownBy W none->Calls prog cf #[.int .i64 (j:Int),.int .i64 a5,cap] W fun e w'=>e=.returned (.bool (d j a5))/\W=w') (t:Tk) (r:List Tk) (tx:List Int) (col:Int) (ch:List Int) (h:Pr pb wm w (.map (some fb)) (.map (some lb)) (.map (some nb)) (.func (.func cf) #[] #[cap]) wv tv hv r.reverse tx col ch)
  (N:pT B wm l G (t::r) tx col ch) (hb:(brk t.T t.ind t.fl).2=false) :
  Calls prog 87 #[.pointer (some ⟨pb,0,none⟩),t.val] w fun e w'=>e=.returned (.tuple #[])/\∃ its tx' a4 a9 wv' tv',
   Pr pb wm w' (.map (some fb)) (.map (some lb)) (.map (some nb)) (.func (.func cf) #[] #[cap]) wv' tv' hv its.reverse tx' a4 a9/\pT B wm l G its tx' a4 a9/\szS its<szS (t::r)/\
   ∀ f,pm d (f+1) ((t::r).map Tk.pt) tx col ch=pm d f (its.map Tk.pt) tx' a4 a9:=by
 have A:=N.tok t (by simp);have d4:=aCG r;have X:=N.tot;rw [aW] at X;have f4:r.reverse.length<=999999:=(by rw [List.length_reverse];omega);have c4:=N.lo;have b8:=N.hi;have a8 : -1000000<=col/\col<=1000000:=(by rw [aW] at c4 b8;omega);have c1:=N.bw.1;have b2 : -1000000<=t.bw/\t.bw<=1000000:=(by omega);have b4:=N.tl;rw [aW] at b4;obtain ⟨v,T,n,ind,fl,O,U⟩:=t;simp only at hb b2 c1;have c8:(Tk.mk v T n ind fl O U).val=mS v ind fl O U:=rfl;rw [c8];cases T with
 | leaf p=>
   have hk:=A.node.leafK;simp only [sz] at b4 X
   by_cases h1:p.k=1
   ·have hw:=fP p.t;refine (aIK B pb wm w Z l _ _ _ _ wv tv hv _ tx col ch h v p n ind fl O U A.node h1 hB a8 (by omega)).mono ?_;rintro e w' ⟨rfl,tv',Y⟩;refine ⟨rfl,r,_,_,_,wv,tv',Y,N.put p.t (aI p.t) (by simp [sz]) (by simp only [sz];omega) (by simp only [sz];omega),by rw [aW];have:=sT (.leaf p);simp only [sz] at this ⊢;omega,fun f=>?_⟩;simp only [List.map_cons,Tk.pt,pm,hb,h1];simp
   ·by_cases h2:p.k=2
    ·refine (aGP B pb wm w Z l _ _ _ _ wv tv hv _ tx col ch h v p n ind fl O U A.node h2 a8 (by omega)).mono ?_;rintro e w' ⟨rfl,tv',Y⟩;refine ⟨rfl,r,_,_,_,wv,tv',Y,N.put [32] 1 (by simp [sz]) (by simp only [sz];omega) (by simp only [sz];omega),by rw [aW];have:=sT (.leaf p);simp only [sz] at this ⊢;omega,fun f=>?_⟩;simp only [List.map_cons,Tk.pt,pm,hb,h2];simp
    ·have c6:p.k=0\/p.k=3:=by
      simp only [brk] at hb
      by_cases h3:p.k=3
      ·exact .inr h3
      ·by_cases h4:p.k=4
       ·simp [h4] at hb
       ·by_cases h5:p.k=5
        ·simp [h5] at hb
        ·omega
     refine (aHL B pb wm w l _ _ _ _ wv tv hv _ tx col ch h v p n ind fl O U A.node c6).mono ?_;rintro e w' ⟨rfl,Y⟩;have hp:=N.put [] 0 (by simp) (by omega) (by omega);rw [List.append_nil,Int.add_zero] at hp;refine ⟨rfl,r,_,_,_,wv,tv,Y,hp,by rw [aW];have:=sT (.leaf p);simp only [sz] at this ⊢;omega,fun f=>?_⟩;simp only [List.map_cons,Tk.pt,pm,hb,h1,h2];simp
 | un p x=>
   have a7:p.k=8\/p.k=7:=by
    obtain ⟨b,u,_,_,h⟩:=A.node.un;rcases h with ⟨h,_⟩ | ⟨h,_⟩
    ·exact .inl h
    ·exact .inr h
   have E:=A.ok;simp only [okN] at E;have M:=A.hi;simp only [dK] at M;have S:=A.gb;simp only [bV] at S;have g2:=oG x E.2;have D:=A.lo;simp only at M D S;rcases a7 with h8 | h7
   ·rw [if_pos h8] at S;have d0:0<ch.length:=by rw [N.clen];omega
    have b1:∃ g lc J,hv=.slice (some ⟨g,0,none⟩) lc J/\lc=ch.length:=by
     rcases h.hrow.2 with ⟨_,hn⟩ | ⟨g,J,f8,c0,_⟩
     ·omega
     ·exact ⟨g,_,J,c0,rfl⟩
    obtain ⟨g,lc,J,rfl,c2⟩:=b1;have g1:=kX fP x;have f3:sz x<=140000:=by simp only [sz] at X;omega
    refine (aGl B pb wm w Z l fb lb nb f0 f1 f2 hC cf cap wv tv g J lc _ tx col ch h hE v p x n ind fl O U A.node h8 (by omega) c2 (by rw [N.clen];omega) (by rw [N.clen];omega) (d (n+bV x))
     (fun W hW=>b6 _ _ W (by omega) hW) (by omega) a8 b2).mono ?_
    rintro e w' ⟨rfl,u,wv',hu,Y⟩;have d8:=E.1;refine ⟨rfl,(⟨u,x,n,ind,fl||pV (flatW x) col O (d (n+bV x)),O,U⟩:Tk)::r,_,_,_,wv',tv,by rw [List.reverse_cons];exact Y,N.one ⟨hu,E.2,D,by simp only;omega,by simp only;omega⟩ rfl (by simp only [sz];omega) (by simp),by rw [aW,aW];simp only [sz];omega,fun f=>?_⟩;simp only [List.map_cons,Tk.pt,pm];rw [if_neg (by omega)]
   ·rw [if_neg (by omega)] at S;refine (aII B pb wm w Z l _ _ _ _ wv tv hv _ tx col ch h v p x n ind fl O U A.node h7 ⟨D,by omega⟩ ⟨E.1,by omega⟩ (by omega)).mono ?_;rintro e w' ⟨rfl,u,wv',hu,Y⟩;refine ⟨rfl,(⟨u,x,n,ind+p.n,fl,O,U⟩:Tk)::r,_,_,_,wv',tv,by rw [List.reverse_cons];exact Y,N.one ⟨hu,E.2,by simp only;omega,by simp only;omega,by simp only;omega⟩ rfl (by simp only [sz];omega) rfl,by rw [aW,aW];simp only [sz];omega,fun f=>?_⟩;simp only [List.map_cons,Tk.pt,pm];rw [if_pos h7]
 | bin p x y=>
   have a7:p.k=6\/p.k=9:=by
    obtain ⟨b,u,u',_,_,_,_,h⟩:=A.node.bin;rcases h with ⟨h,_⟩ | ⟨h,_⟩
    ·exact .inl h
    ·exact .inr h
   have E:=A.ok;simp only [okN] at E;have M:=A.hi;simp only [dK] at M;have S:=A.gb;simp only [bV] at S;have D:=A.lo;simp only at M D S;rcases a7 with h6 | h9
   ·have g0:=lA fP y;have g4:sz y<=140000:=(by simp only [sz] at X;omega);refine (aJ1 B pb wm w Z l fb lb nb f0 f1 f2 hC _ wv tv hv _ tx col ch h v p x y n ind fl O U A.node h6 (by omega) (by omega) b2).mono ?_;rintro e w' ⟨rfl,u,u',wv',hu,c3,Y⟩;refine ⟨rfl,(⟨u,x,n,ind,fl,if (leadT y).2=true then (leadT y).1 else (leadT y).1+O,if (leadT y).2=true then (leadT y).2 else U⟩:Tk)::(⟨u',y,n+bV x,ind,fl,O,U⟩:Tk)::r,_,_,_,wv',tv,by rw [List.reverse_cons,List.reverse_cons];exact Y,N.two ⟨hu,E.1,D,by simp only;omega,by simp only;omega⟩ ⟨c3,E.2,D,by simp only;omega,by simp only;omega⟩ rfl rfl (by simp only [sz];omega),by rw [aW,aW,aW];simp only [sz];omega,fun f=>?_⟩;simp only [List.map_cons,Tk.pt,pm];rw [if_pos h6]
   ·refine (aJw B pb wm w Z l _ _ _ _ wv tv hv _ tx col ch h v p x y n ind fl O U A.node h9 (by omega)).mono ?_;rintro e w' ⟨rfl,u,wv',hu,Y⟩
    have c7:aHR B wm l G ⟨u,if fl then y else x,if fl then n+bV x else n,ind,fl,O,U⟩:=by
     cases fl
     ·exact ⟨hu,E.1,D,by simp only [Bool.false_eq_true,if_false];omega,by simp only [Bool.false_eq_true,if_false];omega⟩
     ·exact ⟨hu,E.2,D,by simp only [if_true];omega,by simp only [if_true];omega⟩
    have c5:sz (if fl then y else x)<sz (.bin p x y):=by
     cases fl<;>simp [sz]<;>omega
    refine ⟨rfl,(⟨u,if fl then y else x,if fl then n+bV x else n,ind,fl,O,U⟩:Tk)::r,_,_,_,wv',tv,by rw [List.reverse_cons];exact Y,N.one c7 rfl c5 rfl,by rw [aW,aW];simp only;omega,fun f=>?_⟩;simp only [List.map_cons,Tk.pt,pm];rw [if_neg (by omega)]
end Go.Proofs.YtmfehflibkokbaaGreatDoor
