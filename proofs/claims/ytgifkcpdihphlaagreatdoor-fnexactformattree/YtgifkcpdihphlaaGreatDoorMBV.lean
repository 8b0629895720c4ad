import Derived.Test.YtgifkcpdihphlaaGreatDoorMBN
import Derived.Test.YtgifkcpdihphlaaGreatDoorMBU
set_option maxHeartbeats 16000000
set_option maxRecDepth 100000
namespace Go.Proofs.YtgifkcpdihphlaaGreatDoor
open Tryz
open Go.RowKit
attribute [-go_sem] Builtin.append_
theorem wD (n h:Int) (w:World):Calls prog 22 #[.int .i64 n,.int .i64 h] w fun e w'=>e=.returned (.bool (decide (0<=n/\n<=h)))/\w=w':=by
 by_cases u:0<=n
 ·have j:decide (0<=n)=true:=by simpa using u
  go_enter func22,ntmps22
  go_wp2;go_ret;exact ⟨by simp [u],rfl⟩
 ·have j:decide (0<=n)=false:=by simpa using u
  go_enter func22,ntmps22
  go_wp2;go_ret;exact ⟨by simp,rfl⟩
theorem DfR.base {H H':Nat} {w:World} {v:Value} {ps:List Pc} (h:DfR H w v ps) (A:H'<=H):DfR H' w v ps:=by
 obtain ⟨u,J,L,y,G⟩:=h;exact ⟨u,J,bH A L,fun j p tv D E=>⟨(y j p tv D E).1.base A,(y j p tv D E).2⟩,G⟩
theorem aLS (ind:Int) (t:Tre) (j:aD aZ 201 false (t.N,())=some ([],())):cT (gO (aF ind 201) t.N++[aI 4]++bI t.tail)=dZ ind t:=by
 unfold dZ;rcases hh:t.N with _ | ⟨n,R⟩
 ·rw [hh] at j;simp [aD] at j
 ·rw [hh] at j
  have u:n.mem=false:=by
   by_cases h:n.mem≠false
   ·simp [aD,h] at j
   ·simpa using h
  simp [gO,nB,u]
theorem aBk (t:Tre) (ind m:Int) (vv:Bool) (c7:vv=true->NsK t.N/\aAR t.tail/\wC t.tail<=2000000/\aD aZ 201 false (t.N,())=some ([],())) (nv tv:Value) (w:World) (hv:dG w.heap.size w nv tv t) (hT:Tab w) (hM:w.cell? ⟨1,0,none⟩=some (.int .i64 m))
  (L:∀ W:World,dG W.heap.size W nv tv t->Tab W->W.cell? ⟨1,0,none⟩=some (.int .i64 m)->Calls prog 48 #[.agg #[nv,tv]] W fun e f7=>e=.returned (.bool vv)/\W.grownBy f7 none) :
  Calls prog 23 #[.agg #[nv,tv],.int .i64 ind] w fun e w'=>∃ v',e=.returned (.tuple #[v',.int .i64 (bdR vv ind t).2])/\DfR w.heap.size w' v' (bdR vv ind t).1/\w.grownBy w' none:=by
 have i9:∀ (x:Bool) (w:World),(Op.unary .not (.bool x)).run prog w=.ok (.bool (!x)) w:=fun _ _=>rfl;obtain ⟨a9,a5⟩:=id hv;have i1:2<=w.heap.size:=World.block_lt_of_cell? w _ hM;have h2:Hid (∀ W:World,w.grownBy W none->dG W.heap.size W nv tv t):=fun W g=>⟨(a9.K g).wide g.size,(a5.K g).wide g.size⟩;have HV:Hid (∀ W:World,w.grownBy W none->_):=fun W (g:w.grownBy W none)=>L W (h2.out W g) (hT.K g) (g.cell hM (by simp));have H1:=aB c7;have HT:=aB hT;have HM:=aB hM;have HN:=aB a9;have g8:=aB a5;have HW:Hid (∀ U:World,_):=fun U=>wD ind 16 U;obtain ⟨na,u,g7,_⟩:=id a9;obtain ⟨ta,G,g4,_⟩:=id a5;subst g7 g4;clear a9 a5 hv L c7 hT hM;have gA:=World.grownBy_alloc w (Obj.cells #[.slice na t.N.length u,.slice ta t.tail.length G] 33) none;have GA:=aB gA;clear gA
 by_cases a7:0<=ind/\ind<=16
 ·have S:decide (0<=ind/\ind<=16)=true:=by simpa using a7
  go_enter func23,ntmps23
  go_wp2_with fail
  refine (HW.out _).mono ?_;rintro e w0 ⟨rfl,b8⟩;rw [S];subst b8;clear HW
  go_wp2_with fail
  refine (HV.out _ GA.out).mono ?_;rintro e J ⟨rfl,g1⟩;have q0:=g1.cell (a:=⟨w.heap.size,0,none⟩) (v:=.slice na t.N.length u) (by simp [go_sem]) (by simp);have q1:=g1.cell (a:=⟨w.heap.size,1,none⟩) (v:=.slice ta t.tail.length G) (by simp [go_sem]) (by simp);have G1:=aB (aA GA.out g1);have s1:w.heap.size+1<=J.heap.size:=(by have:=g1.size;simp at this;omega);clear HV g1;cases vv with
  | false=>
    have Z:=aB (show bdR false ind t=([],1) by simp [bdR]);go_wp2;go_ret2;exact ⟨.slice none 0 0,by rw [Z.out];rfl,by rw [Z.out];exact DfR.nil _ _,G1.out⟩
  | true=>
    obtain ⟨hN,g0,h4,c8⟩:=H1.out rfl;obtain ⟨D,hD⟩:∃ D,D=(J.alloc (Obj.cells #[.slice none 0 0,.int .i64 100000,.bool false] 90)).drew:=⟨_,rfl⟩;have gD:J.grownBy D none:=(by rw [hD];exact aA gWA ⟨rfl,rfl,rfl,Nat.le_refl _,fun _ _ _=>rfl⟩);have sD:D.heap.size=J.heap.size+1:=(by rw [hD];simp);have b0:D.cell? ⟨J.heap.size,0,none⟩=some (.slice none 0 0):=(by rw [hD];simp [go_sem]);have b1:D.cell? ⟨J.heap.size,1,none⟩=some (.int .i64 100000):=(by rw [hD];simp [go_sem]);have b2:D.cell? ⟨J.heap.size,2,none⟩=some (.bool false):=(by rw [hD];simp [go_sem]);have bf:∀ j,D.frozen? ⟨J.heap.size,j,none⟩=false:=fun j=>by rw [hD];simp [go_sem]
    have c9:=aA G1.out gD;have c6:=aB (aBl na t.N.length u ind D);obtain ⟨I,hI⟩:∃ I:World->Prop,I=(fun U:World=>U.cell? ⟨w.heap.size,0,none⟩=some (.slice na t.N.length u)/\U.cell? ⟨w.heap.size,1,none⟩=some (.slice ta t.tail.length G)):=⟨_,rfl⟩;have A:I D:=(by rw [hI];exact ⟨gD.cell q0 (by simp),gD.cell q1 (by simp)⟩);have Z:=aB (show bdR true ind t=if dY (dZ ind t)=true then ([],4) else (dZ ind t,0) by unfold bdR;rw [if_pos ⟨rfl,a7⟩]);have f9:=aB (aLS ind t c8)
    go_wp2_with fail
    refine cS I (fun _=>false) (by kernel_rfl) ?_;rw [<- hD]
    show kZ _ _ _ _ _ _ 8 (Array.replicate 8 false) _ _
    refine bE (i:=0) (.pointer (some ⟨w.heap.size,0,none⟩)) rfl A (cC rfl (fun U hU=>by go_simp)) ?_;refine bE (i:=1) (.slice na t.N.length u) rfl A (cC rfl (fun U hU=>by rw [hI] at hU;obtain ⟨h0,h1⟩:=hU;go_simp)) ?_;refine bE (i:=2) (.int .i64 ind) rfl A (cC rfl (fun U hU=>by go_simp)) ?_;refine bE (i:=4) (.pointer (some ⟨w.heap.size,1,none⟩)) rfl A (cC rfl (fun U hU=>by go_simp)) ?_;refine bE (i:=5) (.slice ta t.tail.length G) rfl A (cC rfl (fun U hU=>by rw [hI] at hU;obtain ⟨h0,h1⟩:=hU;go_simp)) ?_;generalize hG:Act.put _ _ _=A0;simp [Act.put] at hG;subst hG;refine aL (i:=3) (by kernel_rfl) (eC rfl rfl (by go_simp) c6.out ?_);rintro e w2 ⟨rfl,d1,g2⟩;have y:=aA c9 g2;have O:I w2:=(by rw [hI] at A ⊢;exact ⟨g2.cell A.1 (by simp),g2.cell A.2 (by simp)⟩);refine ⟨_,rfl,.inr O,?_⟩;have s2:=g2.size;have d6:Sx D.heap.size w.heap.size ind m w2 (.slice na t.N.length u) t.N:=⟨d1,HN.out.K y,HT.out.K y,y.cell HM.out (by simp)⟩;have d8:=aB (aHo D.heap.size w.heap.size ind m (by omega) (by omega) t.N t.tail (.slice na t.N.length u) (.slice ta t.tail.length G) w2 d6 hN c8 (g8.out.K y) g0 h4);refine aL (i:=6) (by kernel_rfl) (eC rfl rfl (by go_simp) d8.out ?_);rintro e w3 ⟨f,d7,rfl,c2,M⟩;have c0:I w3:=(by rw [hI] at O ⊢;exact ⟨M.cell O.1 (by simp;omega),M.cell O.2 (by simp;omega)⟩);refine ⟨_,rfl,.inr c0,?_⟩;refine aL (i:=7) (by kernel_rfl) (bM (w':=w3) (v:=.func (.func f) #[] d7) rfl rfl (by go_simp) ⟨.inr c0,?_⟩);refine eD (by kernel_rfl) ?_ _;have a4:some J.heap.size≠some D.heap.size:=(by simp;omega);have e0:=M.cell (g2.cell b0 (by simp)) a4;have e1:=M.cell (g2.cell b1 (by simp)) a4;have e2:=M.cell (g2.cell b2 (by simp)) a4
    have ef:∀ j,w3.frozen? ⟨J.heap.size,j,none⟩=false:=fun j=>by
     rw [World.frozen?_of_block (M.block J.heap.size (by omega) a4),World.frozen?_of_block (g2.block J.heap.size (by omega) (by simp))];exact bf j
    have f3:gP w3.heap.size w3 J.heap.size ([],false):=⟨⟨_,e0,DfR.nil _ _⟩,by simpa [cR] using e1,e2,ef,by simp,by simp [cR]⟩;have s3:=M.size;have k3:=c2.1;have a8:=aB (c2.2.2 w3.heap.size J.heap.size w3 ([],false) (fun k hk=>⟨hk.2,by have:=hk.1;omega,rfl⟩) f3 (by omega) (Nat.le_refl _));rw [f9.out] at a8;have G3:Hid (w.grownBy w3 none):=⟨M.os.trans y.os,M.tape.trans y.tape,M.output.trans y.output,Nat.le_trans y.size M.size,fun k hk _=>(M.block k (by omega) (by simp;omega)).trans (y.block k hk (by simp))⟩;subst hI;clear d8 c6 d6 d1 g2 M y c9 gD hD b0 b1 b2 bf e0 e1 e2 ef f3 c2 A O c0 q0 q1
    go_wp2_with fail
    refine a8.out.mono ?_;rintro e w4 ⟨rfl,a6,E⟩;obtain ⟨b7,c1⟩:=aHS (dZ ind t);obtain ⟨dv,d0,X⟩:=a6.v;have d2:=a6.f;have s4:=E.size;have G4:Hid (w.grownBy w4 none):=⟨E.os.trans G3.out.os,E.tape.trans G3.out.tape,E.output.trans G3.out.output,Nat.le_trans G3.out.size E.size,fun k hk _=>(E.block k (by omega) (by omega)).trans (G3.out.block k hk (by simp))⟩;rw [b7] at d2;cases H:dY (dZ ind t) with
    | true=>
      rw [H] at d2;have Y:=aB (show bdR true ind t=([],4) by rw [Z.out,H];rfl);clear Z H b7 c1 X d0 a6 E a8;go_wp2;go_ret2;exact ⟨.slice none 0 0,by rw [Y.out];rfl,by rw [Y.out];exact DfR.nil _ _,G4.out⟩
    | false=>
      rw [H] at d2;have Y:=aB (show bdR true ind t=(dZ ind t,0) by rw [Z.out,H];rfl);rw [c1 H] at X;obtain ⟨da,dc,d5⟩:=X.sl;have h5:=aB (X.base (H':=w.heap.size) (by omega));generalize (dZ ind t).length=DL at d5;subst d5;clear Z H b7 c1 X a6 E a8;go_wp2;go_ret2;exact ⟨.slice da DL dc,by rw [Y.out];rfl,by rw [Y.out];exact h5.out,G4.out⟩
 ·have S:decide (0<=ind/\ind<=16)=false:=(by simpa using a7);have Z:=aB (show bdR vv ind t=([],1) by unfold bdR;rw [if_neg (fun h=>a7 h.2)])
  go_enter func23,ntmps23
  go_wp2_with fail
  refine (HW.out _).mono ?_;rintro e w0 ⟨rfl,b8⟩;rw [S];subst b8;clear HW HV;go_wp2;go_ret2;exact ⟨.slice none 0 0,by rw [Z.out];rfl,by rw [Z.out];exact DfR.nil _ _,GA.out⟩
end Go.Proofs.YtgifkcpdihphlaaGreatDoor
namespace Go.Proofs.YtgifkcpdihphlaaGreatDoor
open Tryz
open Go.RowKit
structure PT where
 T:Tr
 n:Nat
 ind:Int
 fl:Bool
 bw:Int
 be:Bool
def Tk.pt (t:Tk):PT:=⟨t.T,t.n,t.ind,t.fl,t.bw,t.be⟩
def pm (d:Nat->Int->Bool):Nat->List PT->List Int->Int->List Int->List Int × List Int
 | 0,_,tx,_,ch=>(tx,ch)
 | _+1,[],tx,_,ch=>(tx,ch)
 | f+1,⟨.leaf p,_,ind,fl,_,_⟩::r,tx,col,ch=>
   if (brk (.leaf p) ind fl).2=true then pm d f r (tx++[10]++List.replicate (brk (.leaf p) ind fl).1.toNat 32) (brk (.leaf p) ind fl).1 ch
   else if p.k=1 then pm d f r (tx++p.t) (col+aH p.t) ch
   else if p.k=2 then pm d f r (tx++[32]) (col+1) ch
   else pm d f r tx col ch
 | f+1,⟨.un p x,n,ind,fl,bw,be⟩::r,tx,col,ch=>
   if p.k=7 then pm d f (⟨x,n,ind+p.n,fl,bw,be⟩::r) tx col ch
   else pm d f (⟨x,n,ind,fl||qR (flatW x) col bw (d (n+bY x)),bw,be⟩::r) tx col (ch.set (n+bY x) (if (fl||qR (flatW x) col bw (d (n+bY x)))=true then 1 else 2))
 | f+1,⟨.bin p x y,n,ind,fl,bw,be⟩::r,tx,col,ch=>
   if p.k=6 then pm d f (⟨x,n,ind,fl,if (leadT y).2=true then (leadT y).1 else (leadT y).1+bw,if (leadT y).2=true then (leadT y).2 else be⟩::⟨y,n+bY x,ind,fl,bw,be⟩::r) tx col ch
   else pm d f (⟨if fl then y else x,if fl then n+bY x else n,ind,fl,bw,be⟩::r) tx col ch
def szS (its:List Tk):Nat:=szs (its.map (·.T))
theorem aX (t:Tk) (r:List Tk):szS (t::r)=sz t.T+szS r:=rfl
theorem aCz:∀ (r:List Tk),r.length<=szS r
 | []=>Nat.le_refl _
 | t::r=>by have:=aCz r;have:=tX t.T;rw [aX,List.length_cons];omega
def aML:List Tk->Prop
 | []=>True
 | t::r=>(-(szS r:Int)<=t.bw/\t.bw<=szS r)/\aML r
structure aJ0 (B:Nat) (wm:World) (l:List Value) (G:Nat) (t:Tk):Prop where
 node:cE B wm l t.v t.T t.n
 ok:okN t.T
 lo:0<=t.ind
 hi:t.ind+dO t.T<=4000
 gb:t.n+bY t.T<=G
structure qN (B:Nat) (wm:World) (l:List Value) (G:Nat) (its:List Tk) (tx:List Int) (col:Int) (ch:List Int):Prop where
 tok:∀ t∈its,aJ0 B wm l G t
 bw:aML its
 tot:szS its<=140000
 clen:ch.length=G
 lo : -(140000 - (szS its:Int))<=col
 hi:col<=4000+(140000 - (szS its:Int))
 tl:tx.length+4001*szS its<=4001*140000
theorem aMe {T:Tr} {ind:Int} {fl:Bool} (h:0<=ind) (j:ind<=4000):0<=(brk T ind fl).1/\(brk T ind fl).1<=4000:=by
 unfold brk
 split
 ·split
  ·exact ⟨h,j⟩
  ·split
   ·exact ⟨h,j⟩
   ·split<;>simp
 ·simp
theorem qN.line {B:Nat} {wm:World} {l:List Value} {G:Nat} {t:Tk} {r:List Tk} {tx:List Int} {col:Int} {ch:List Int} (h:qN B wm l G (t::r) tx col ch) (i:Int) (u:0<=i) (y:i<=4000) :
  qN B wm l G r (tx++[10]++List.replicate i.toNat 32) i ch:=by
 obtain ⟨a,b,c,d,e,f,g⟩:=h;rw [aX] at c e f g;have:=tX t.T;refine ⟨fun t j=>a t (List.mem_cons_of_mem _ j),b.2,by omega,d,by omega,by omega,?_⟩;simp only [List.length_append,List.length_cons,List.length_nil,List.length_replicate];omega
theorem qN.put {B:Nat} {wm:World} {l:List Value} {G:Nat} {t:Tk} {r:List Tk} {tx:List Int} {col:Int} {ch:List Int} (h:qN B wm l G (t::r) tx col ch) (s:List Int) (j:Int) (A:s.length<=sz t.T) (D : -(sz t.T:Int)<=j) (y:j<=sz t.T) :
  qN B wm l G r (tx++s) (col+j) ch:=by
 obtain ⟨a,b,c,d,e,f,g⟩:=h;rw [aX] at c e f g;refine ⟨fun t u=>a t (List.mem_cons_of_mem _ u),b.2,by omega,d,by omega,by omega,?_⟩;simp only [List.length_append];omega
theorem qN.one {B:Nat} {wm:World} {l:List Value} {G:Nat} {t u:Tk} {r:List Tk} {tx:List Int} {col:Int} {ch j:List Int} (h:qN B wm l G (t::r) tx col ch) (D:aJ0 B wm l G u) (A:u.bw=t.bw) (y:sz u.T<sz t.T) (E:j.length=ch.length) :
  qN B wm l G (u::r) tx col j:=by
 obtain ⟨a,b,c,d,e,f,g⟩:=h;rw [aX] at c e f g;refine ⟨fun s y=>?_,⟨by rw [A];exact b.1,b.2⟩,by rw [aX];omega,by omega,by rw [aX];omega,by rw [aX];omega,by rw [aX];omega⟩;rcases List.mem_cons.1 y with rfl | y
 ·exact D
 ·exact a s (List.mem_cons_of_mem _ y)
theorem qN.two {B:Nat} {wm:World} {l:List Value} {G:Nat} {t u j:Tk} {r:List Tk} {tx:List Int} {col:Int} {ch:List Int} (h:qN B wm l G (t::r) tx col ch) (J:aJ0 B wm l G u) (D:aJ0 B wm l G j) (A:j.bw=t.bw)
  (E:u.bw=if (leadT j.T).2=true then (leadT j.T).1 else (leadT j.T).1+t.bw) (y:sz u.T+sz j.T<sz t.T):qN B wm l G (u::j::r) tx col ch:=by
 obtain ⟨a,b,c,d,e,f,g⟩:=h;rw [aX] at c e f g;have L:=lG fZ j.T;have H:=b.1;refine ⟨fun s y=>?_,⟨?_,⟨by rw [A];exact b.1,b.2⟩⟩,by rw [aX,aX];omega,by omega,by rw [aX,aX];omega,by rw [aX,aX];omega,by rw [aX,aX];omega⟩
 ·rcases List.mem_cons.1 y with rfl | y
  ·exact J
  ·rcases List.mem_cons.1 y with rfl | y
   ·exact D
   ·exact a s (List.mem_cons_of_mem _ y)
 ·rw [E,aX]
  split<;>omega
theorem aJE (B pb:Nat) (wm w:World) (l:List Value) (a0 a1 a2 a3 wv tv hv:Value) (ts:List Tk) (tx:List Int) (col:Int) (ch:List Int) (h:Pr pb wm w a0 a1 a2 a3 wv tv hv ts tx col ch)
  (v:Value) (p:Pc) (n:Nat) (ind:Int) (fl:Bool) (D:Int) (M:Bool) (u:cE B wm l v (.leaf p) n) (Y:p.k=0\/p.k=3) :
  Calls prog 98 #[.pointer (some ⟨pb,0,none⟩),nI v ind fl D M] w fun e w'=>e=.returned (.tuple #[])/\Pr pb wm w' a0 a1 a2 a3 wv tv hv ts tx col ch:=by
 have A:=u.rep;simp only [Rep] at A;have y:=bJ h;have X:=h.lt;unfold nI;clear h u;rcases A with h | h | h | h | h | ⟨Z,b,tv',h,_⟩
 ·obtain ⟨L,S,U,H,N,E,O,G,J,j⟩:=oQ;rw [h.2];clear h
  go_enter func98,ntmps98
  go_wp2
  go_returns
  exact ⟨rfl,y.out.K gWA⟩
 ·omega
 ·obtain ⟨L,S,U,H,N,E,O,G,J,j⟩:=rR;rw [h.2];clear h
  go_enter func98,ntmps98
  go_wp2
  go_returns
  exact ⟨rfl,y.out.K gWA⟩
 ·omega
 ·omega
 ·omega
theorem aJj (B pb:Nat) (wm w:World) (b4:pb=wm.heap.size) (l:List Value) (a0 a1 a2 a3 wv tv hv:Value) (ts:List Tk) (tx:List Int) (col:Int) (ch:List Int) (h:Pr pb wm w a0 a1 a2 a3 wv tv hv ts tx col ch)
  (v:Value) (p:Pc) (n:Nat) (ind:Int) (fl:Bool) (Z:Int) (be:Bool) (hn:cE B wm l v (.leaf p) n) (hk:p.k=1) (hB:B<=pb) (d3 : -1000000<=col/\col<=1000000) (hl:tx.length+p.t.length<=700000000) :
  Calls prog 98 #[.pointer (some ⟨pb,0,none⟩),nI v ind fl Z be] w fun e w'=>e=.returned (.tuple #[])/\∃ tv',Pr pb wm w' a0 a1 a2 a3 wv tv' hv ts (tx++p.t) (col+aH p.t) ch:=by
 subst b4;have hr:=hn.rep;simp only [Rep] at hr;rcases hr with h | h | h | h | h | ⟨h1,b,sv,b1,_,b2,J,O,a9⟩
 ·omega
 ·omega
 ·omega
 ·omega
 ·omega
 subst b1;obtain ⟨e1,e2,e3,e4,e5,e6,e7,e8,e9,d0⟩:=qS (.pointer (some ⟨b,0,none⟩));have y:=aC h.bel;have N:wm.cell? ⟨b,0,none⟩=some sv:=(by simp [World.cell?,J]);have E:wm.cell? ⟨b,1,none⟩=some (.int .i64 (aH p.t)):=(by simp [World.cell?,J]);have d4:=iX (y.cell N (by simp));have b0:=iX (y.cell E (by simp));have c8:=h.lt;have HP:=bJ h;have c7:=fZ p.t;have Y:w.grownBy (w.alloc (.cells #[.iface 187 (.pointer (some ⟨b,0,none⟩)),.int .i64 ind,.bool fl,.int .i64 Z,.bool be] 157)).drew none:=dW gWA;have j:=h.K Y;obtain ⟨tv',w2,M,L,u,G⟩:=xW (wm.heap.size+1) B (w.alloc (.cells #[.iface 187 (.pointer (some ⟨b,0,none⟩)),.int .i64 ind,.bool fl,.int .i64 Z,.bool be] 157)).drew tv sv tx p.t j.trow (O.K (aA y Y)) (by have:=j.lt;omega) (by omega);have S:=World.ownsRow.lt j.trow;have D:some wm.heap.size≠tv.ownBlock:=fun e=>by have:=S _ e.symm;omega
 have U:tv.ownBlock≠some b:=fun e=>by have:=S _ e;omega
 have x5:=u.cell j.c5 D;have y5:w2.frozen? ⟨wm.heap.size,5,none⟩=false:=(World.frozen?_of_block (u.block wm.heap.size j.lt D)).trans (j.fz 5);have A:=Pr.X j u L (G.imp id fun e=>⟨_,e,Nat.le_refl _⟩);have a8:=bJ A;have c4:b≠wm.heap.size:=(by omega);have d1:IntKind.i64.wrap (col+aH p.t)=col+aH p.t:=by simp [IntKind.wrap,IntKind.bits,IntKind.signed];omega
 have c9:(w2.setCell ⟨wm.heap.size,5,none⟩ tv').cell? ⟨b,1,none⟩=some (.int .i64 (aH p.t)):=by
  exact (A.bel.cell (p:=⟨b,1,none⟩) b2).trans E
 have c0:=u.cell ((aA y Y).cell E (by simp)) (fun e=>U e.symm);have d6:=A.c6;have z6:=A.fz 6;have c1:=u.cell j.c6 D;have c3:w2.frozen? ⟨wm.heap.size,6,none⟩=false:=(World.frozen?_of_block (u.block wm.heap.size j.lt D)).trans (j.fz 6);obtain ⟨c2,a6,H,_,_⟩:=bD L;rw [List.length_append] at H;obtain ⟨ta,b8,a4,_,_⟩:=bD h.trow;obtain ⟨sa,b9,a5,_,_⟩:=a9;have d2:=iX h.c5;unfold nI;subst H a4 a5;generalize aH p.t=wd at *;clear h hn j A u L G Y O J N E y b0
 go_enter func98,ntmps98
 go_wp2_with fail
 go_region_law (refine rJ rfl (.tmp 19) (.tmp 23) 27 rfl _ _ _ _ (by simp [Act.eval]) (by simp [Act.eval]) M ?_)
 all_goals
  go_simp
  go_wp2
  go_region
  all_goals
   go_wp2
   go_returns
   exact ⟨rfl,_,(a8.out.column (col+wd)).K (dW (World.grownBy.refl _ _))⟩
theorem aIq (B pb:Nat) (wm w:World) (b5:pb=wm.heap.size) (l:List Value) (a0 a1 a2 a3 wv tv hv:Value) (ts:List Tk) (tx:List Int) (col:Int) (ch:List Int) (h:Pr pb wm w a0 a1 a2 a3 wv tv hv ts tx col ch)
  (v:Value) (p:Pc) (n:Nat) (ind:Int) (fl:Bool) (H:Int) (L:Bool) (hn:cE B wm l v (.leaf p) n) (hk:p.k=2) (d8 : -1000000<=col/\col<=1000000) (hl:tx.length<=700000000) :
  Calls prog 98 #[.pointer (some ⟨pb,0,none⟩),nI v ind fl H L] w fun e w'=>e=.returned (.tuple #[])/\∃ tv',Pr pb wm w' a0 a1 a2 a3 wv tv' hv ts (tx++[32]) (col+1) ch:=by
 subst b5;have hr:=hn.rep;simp only [Rep] at hr
 have b4:v=.iface 183 (.agg #[]):=by
  rcases hr with h | h | h | h | h | ⟨h1,b,tv',h,_⟩
  ·omega
  ·exact h.2
  ·omega
  ·omega
  ·omega
  ·omega
 subst b4;obtain ⟨e1,e2,e3,e4,e5,e6,e7,e8,e9,d5⟩:=rK;have d1:=h.lt;have HP:=bJ h;obtain ⟨i0,hi,a4,a9,b1⟩:=info_parts lL;have gA:w.grownBy ((w.alloc (.cells #[.iface 183 (.agg #[]),.int .i64 ind,.bool fl,.int .i64 H,.bool L] 157)).alloc (.cells #[] 183)) none:=aA gWA gWA;have y:=h.K gA;have b2:=bJ y;have b3:=World.ownsRow.lt y.trow;have N:tv.ownBlock≠some wm.heap.size:=fun e=>by have:=b3 wm.heap.size e;omega
 have O:=bJ N;have E:((w.alloc (.cells #[.iface 183 (.agg #[]),.int .i64 ind,.bool fl,.int .i64 H,.bool L] 157)).alloc (.cells #[] 183)).ownsRow (wm.heap.size+1) 5 1 tv tx.length (tx.map (Value.int .u8)):=y.trow;have S:=bJ E;have c5:=y.c5;have c1:=h.c5;have f5:=y.fz 5;have c7:¬ wm.heap.size=w.heap.size:=(by omega);have d0:¬ wm.heap.size=w.heap.size+1:=(by omega);have c9:¬ w.heap.size=wm.heap.size:=(by omega);have c2:¬ w.heap.size+1=wm.heap.size:=(by omega);have M:=y.lt;have U:((w.alloc (.cells #[.iface 183 (.agg #[]),.int .i64 ind,.bool fl,.int .i64 H,.bool L] 157)).alloc (.cells #[] 183)).grownBy (((w.alloc (.cells #[.iface 183 (.agg #[]),.int .i64 ind,.bool fl,.int .i64 H,.bool L] 157)).alloc (.cells #[] 183)).alloc (.cells #[.int .u8 32] 5)) none:=gWA;have Y:=U.cell c5 (by simp);have a8:(((w.alloc (.cells #[.iface 183 (.agg #[]),.int .i64 ind,.bool fl,.int .i64 H,.bool L] 157)).alloc (.cells #[] 183)).alloc (.cells #[.int .u8 32] 5)).frozen? ⟨wm.heap.size,5,none⟩=false:=(World.frozen?_of_block (U.block wm.heap.size M (by simp))).trans f5;have GI:=bJ U;have J:=qE ((w.alloc (.cells #[.iface 183 (.agg #[]),.int .i64 ind,.bool fl,.int .i64 H,.bool L] 157)).alloc (.cells #[] 183)) (.int .u8 32) 5;simp only [World.size_alloc] at J;have a6:=bJ J;obtain ⟨ta,b8,Z,_,_⟩:=bD h.trow;subst Z;unfold nI;clear h hn hr y E N gA U J
 go_enter func98,ntmps98
 go_wp2_with (at_builtin;refine wpList_append_own_at _ rfl _ _ 27 rfl (wm.heap.size+1) 5 i0 (.int .u8 0) 1 1 underlying27 hi a4 a9 b1 rfl (by decide) _ _ _ rfl (World.ownsRow.alloc S.out _) ⟨w.heap.size+1+1,0,none⟩ 1 1 [.int .u8 32] rfl rfl a6.out (by intro u hu;simp at hu;subst hu;rfl) (by unfold maxLen;omega) (by omega) (by simp;omega) ?_)
 intro v1 w1 A j _ G;have x5:=j.cell Y (fun e=>O.out e.symm);have y5:w1.frozen? ⟨wm.heap.size,5,none⟩=false:=(World.frozen?_of_block (j.block wm.heap.size (by simp;omega) (fun e=>O.out e.symm))).trans a8;have D:=Pr.X (b2.out.K GI.out) (tv':=v1) (tx':=tx++[32]) j (by unfold OwB Ow;rw [List.map_append,List.length_append];exact A) (G.imp id fun e=>⟨_,e,by simp⟩);have d6:=D.c6;have z6:=D.fz 6;have a7:=bJ D;obtain ⟨va,b7,a5,_,_⟩:=bD A;subst a5;clear D A j G;go_wp2
 go_returns
 exact ⟨rfl,_,a7.out.column (col+1)⟩
theorem aGZ (B pb:Nat) (wm w:World) (c8:pb=wm.heap.size) (l:List Value) (fb lb nb:Nat) (f0 f1 f2:Value->Option Value) (hC:Ctx B wm l fb lb nb f0 f1 f2) (cf:Nat) (cap:Value) (wv tv:Value) (g J lc:Nat) (ts:List Tk) (tx:List Int) (col:Int) (ch:List Int)
  (h:Pr pb wm w (.map (some fb)) (.map (some lb)) (.map (some nb)) (.func (.func cf) #[] #[cap]) wv tv (.slice (some ⟨g,0,none⟩) lc J) ts tx col ch) (hE:∀ (args:Array Value) (W:World),(callFunc cf args).run prog W=.ok (.enter cf args) W)
  (v:Value) (p:Pc) (x:Tr) (n:Nat) (ind:Int) (fl:Bool) (y:Int) (U:Bool) (hn:cE B wm l v (.un p x) n) (hk:p.k=8) (hl:ts.length<=1000000) (c5:lc=ch.length) (hj:n+bY x<ch.length) (b3:ch.length<=1000000) (d:Int->Bool)
  (a6:∀ W,wm.grownBy W none->Calls prog cf #[.int .i64 ((n+bY x:Nat):Int),.int .i64 (col+flatW x+y),cap] W fun e w'=>e=.returned (.bool (d (col+flatW x+y)))/\W=w')
  (d3 : -1<=flatW x/\flatW x<=1000000) (d2 : -1000000<=col/\col<=1000000) (d9 : -1000000<=y/\y<=1000000) :
  Calls prog 98 #[.pointer (some ⟨pb,0,none⟩),nI v ind fl y U] w fun e w'=>e=.returned (.tuple #[])/\∃ u wv',cE B wm l u x n/\
   Pr pb wm w' (.map (some fb)) (.map (some lb)) (.map (some nb)) (.func (.func cf) #[] #[cap]) wv' tv (.slice (some ⟨g,0,none⟩) lc J) (ts++[⟨u,x,n,ind,fl||qR (flatW x) col y d,y,U⟩]) tx col (ch.set (n+bY x) (if (fl||qR (flatW x) col y d)=true then 1 else 2)):=by
 subst c8;subst c5;obtain ⟨b,u,c0,hu,c4⟩:=hn.un;rcases c4 with ⟨_,b7,d4⟩ | ⟨h1,_⟩
 rotate_left
 ·omega
 have b5:=d4 f2 hC.t2;have d7:uG b∈l:=(by rw [<- b7];exact hn.mem);have X:=aC h.bel;have A:∀ W,wm.grownBy W none->_:=fun W L=>hC.num (W:=W) d7 b5 L;have H:∀ W,wm.grownBy W none->_:=fun W L=>hC.flat (W:=W) hn L;have h2:=iX (X.cell c0 (by simp));have Z:b<wm.heap.size:=World.block_lt_of_cell? wm _ c0;obtain ⟨tu,yu,a5⟩:=hu.rep.form;subst a5;subst b7;obtain ⟨e1,e2,e3,e4,e5,e6,e7,e8,e9,h7⟩:=pE (.pointer (some ⟨b,0,none⟩));have i0:=h.lt;have d1:=World.ownsRow.lt h.wrow;have c9:=World.ownsRow.lt h.trow;have b8:=World.ownsRow.lt h.hrow;have h4:=b8 g rfl;have HP:=bJ h;have HU:=bJ hu;have b4:∀ o,w.grownBy (w.alloc o) none:=fun o=>gWA;have HO:=bJ (fun c7=>wR 195 tu (.pointer (some ⟨b,0,none⟩)) yu ind c7 y U);unfold nI uG at *;cases fl
 ·have b1:Hid (∀ W,w.grownBy W none->_):=fun W L=>aDW wm.heap.size wm W fb nb cf (.map (some lb)) cap wv tv _ ts tx col ch (h.K L) b y U (flatW x) (fun W' M=>H W' (aA X (aA L M))) (n+bY x) (fun W' M=>A W' (aA X (aA L M))) d (fun W' M=>a6 W' (aA X (aA L M))) hE d3 d2 d9;generalize qR (flatW x) col y d=cr at *;have N:=bJ A;clear h hn hu H a6 A b4
  go_enter func98,ntmps98
  go_wp2_with fail
  refine (b1.out _ gWA).mono ?_;rintro e w2 ⟨rfl,Y⟩;have t0:=Y.cell (a:=⟨w.heap.size,0,none⟩) (v:=.iface 195 (.pointer (some ⟨b,0,none⟩))) (by simp [go_sem]) (by simp);have t1:=Y.cell (a:=⟨w.heap.size,1,none⟩) (v:=.int .i64 ind) (by simp [go_sem]) (by simp);have t2:=Y.cell (a:=⟨w.heap.size,2,none⟩) (v:=.bool false) (by simp [go_sem]) (by simp);have t3:=Y.cell (a:=⟨w.heap.size,3,none⟩) (v:=.int .i64 y) (by simp [go_sem]) (by simp);have t4:=Y.cell (a:=⟨w.heap.size,4,none⟩) (v:=.bool U) (by simp [go_sem]) (by simp);have z2:w2.frozen? ⟨w.heap.size,2,none⟩=false:=(World.frozen?_of_block (Y.block w.heap.size (by simp) (by simp))).trans (by simp [go_sem]);have S:w.grownBy w2 none:=aA gWA Y;have c6:=Y.size;simp only [World.size_alloc] at c6;have E:=(HP.out.K S).aside w.heap.size 2 (.bool cr) (by omega) (fun e=>by have:=d1 _ e;omega) (fun e=>by have:=c9 _ e;omega) (fun e=>by have:=b8 _ e;omega);have hN:=aDI wm.heap.size wm _ _ _ nb _ _ _ g J ch.length ts tx col ch E b cr (n+bY x) (fun W L=>N.out W (aA (aC E.bel) L)) rfl hj b3;clear Y S E
  go_wp2_with fail
  refine hN.mono ?_;rintro e w4 ⟨rfl,G,a4,O⟩;have j:=O w.heap.size (by omega);simp only [World.size_setCell] at a4;have s0:=(World.cell?_of_block (a:=⟨w.heap.size,0,none⟩) j).trans (show _=some (Value.iface 195 (.pointer (some ⟨b,0,none⟩))) by simp [go_sem,t0]);have s1:=(World.cell?_of_block (a:=⟨w.heap.size,1,none⟩) j).trans (show _=some (Value.int .i64 ind) by simp [go_sem,t1]);have s2:=(World.cell?_of_block (a:=⟨w.heap.size,2,none⟩) j).trans (show _=some (Value.bool cr) by simp [go_sem,t2]);have s3:=(World.cell?_of_block (a:=⟨w.heap.size,3,none⟩) j).trans (show _=some (Value.int .i64 y) by simp [go_sem,t3]);have s4:=(World.cell?_of_block (a:=⟨w.heap.size,4,none⟩) j).trans (show _=some (Value.bool U) by simp [go_sem,t4]);have n0:=(G.bel.cell (p:=⟨b,0,none⟩) Z).trans c0;have a7:=bJ G;clear G O j hN t0 t1 t2 t3 t4 z2
  go_wp2_with fail
  go_region_with (first | (go_at_call 130;refine (HO.out cr _).mono ?_;rintro e w6 ⟨rfl,g6⟩) | (go_at_call 94;refine (jS _ wm w6 _ _ _ _ _ _ _ _ _ _ _ (a7.out.K (aA (dW (World.grownBy.refl _ _)) g6)) ⟨.iface tu yu,x,n,ind,cr,y,U⟩ ⟨_,_,rfl⟩ hl).mono ?_;rintro e w7 ⟨rfl,⟨a8,D,_⟩,_,_⟩))
  all_goals
   go_wp2
   all_goals
    go_returns
    refine ⟨rfl,.iface tu yu,HU.out,a8,?_⟩
    first
     | (have e:cr=true:=by assumption
        rw [e] at D;exact D)
     | (have e:cr=false:=by assumption
        rw [e] at D;exact D)
     | (have e:¬ cr=true:=by assumption
        rw [Bool.not_eq_true] at e;rw [e] at D;exact D)
 ·have N:=bJ A;clear h hn hu H a6 A b4;generalize qR (flatW x) col y d=cr at *;have S:w.grownBy (w.alloc (.cells #[.iface 195 (.pointer (some ⟨b,0,none⟩)),.int .i64 ind,.bool true,.int .i64 y,.bool U] 157)) none:=gWA;have E:=HP.out.K S;have hN:=aDI wm.heap.size wm _ _ _ nb _ _ _ g J ch.length ts tx col ch E b true (n+bY x) (fun W L=>N.out W (aA (aC E.bel) L)) rfl hj b3;clear S E
  go_enter func98,ntmps98
  go_wp2_with fail
  refine hN.mono ?_;rintro e w4 ⟨rfl,G,a4,O⟩;have j:=O w.heap.size (by omega);simp only [World.size_alloc] at a4;have s0:=(World.cell?_of_block (a:=⟨w.heap.size,0,none⟩) j).trans (show _=some (Value.iface 195 (.pointer (some ⟨b,0,none⟩))) by simp [go_sem]);have s1:=(World.cell?_of_block (a:=⟨w.heap.size,1,none⟩) j).trans (show _=some (Value.int .i64 ind) by simp [go_sem]);have s2:=(World.cell?_of_block (a:=⟨w.heap.size,2,none⟩) j).trans (show _=some (Value.bool true) by simp [go_sem]);have s3:=(World.cell?_of_block (a:=⟨w.heap.size,3,none⟩) j).trans (show _=some (Value.int .i64 y) by simp [go_sem]);have s4:=(World.cell?_of_block (a:=⟨w.heap.size,4,none⟩) j).trans (show _=some (Value.bool U) by simp [go_sem]);have n0:=(G.bel.cell (p:=⟨b,0,none⟩) Z).trans c0;have a7:=bJ G;clear G O j hN
  go_wp2_with fail
  go_region_with (first | (go_at_call 130;refine (HO.out true _).mono ?_;rintro e w6 ⟨rfl,g6⟩) | (go_at_call 94;refine (jS _ wm w6 _ _ _ _ _ _ _ _ _ _ _ (a7.out.K (aA (dW (World.grownBy.refl _ _)) g6)) ⟨.iface tu yu,x,n,ind,true,y,U⟩ ⟨_,_,rfl⟩ hl).mono ?_;rintro e w7 ⟨rfl,⟨a8,D,_⟩,_,_⟩))
  all_goals
   go_wp2
   go_returns
   exact ⟨rfl,.iface tu yu,HU.out,a8,D⟩
theorem cE.iface {B:Nat} {wm:World} {l:List Value} {v:Value} {T:Tr} {n:Nat} (h:cE B wm l v T n):∃ A u,v=.iface A u:=by
 have j:=h.rep;cases T with
 | leaf p=>
   simp only [Rep] at j;rcases j with h | h | h | h | h | ⟨_,b,tv,h,_⟩
   ·exact ⟨_,_,h.2⟩
   ·exact ⟨_,_,h.2⟩
   ·exact ⟨_,_,h.2⟩
   ·exact ⟨_,_,h.2⟩
   ·exact ⟨_,_,h.2⟩
   ·exact ⟨_,_,h⟩
 | un p x=>
   obtain ⟨b,u,_,_,h⟩:=h.un;rcases h with ⟨_,h,_⟩ | ⟨_,h,_⟩
   ·exact ⟨_,_,h⟩
   ·exact ⟨_,_,h⟩
 | bin p x y=>
   obtain ⟨b,u,D,_,_,_,_,h⟩:=h.bin;rcases h with ⟨_,h⟩ | ⟨_,h⟩
   ·exact ⟨_,_,h⟩
   ·exact ⟨_,_,h⟩
theorem cE.leafK {B:Nat} {wm:World} {l:List Value} {v:Value} {p:Pc} {n:Nat} (h:cE B wm l v (.leaf p) n):0<=p.k/\p.k<=5:=by
 have j:=h.rep;simp only [Rep] at j;rcases j with h | h | h | h | h | ⟨h,_⟩
 all_goals first | omega | (have:=h.1;omega)
theorem aJ9 (B pb:Nat) (wm w:World) (U:pb=wm.heap.size) (hB:B<=pb) (l:List Value) (fb lb nb:Nat) (f0 f1 f2:Value->Option Value) (hC:Ctx B wm l fb lb nb f0 f1 f2) (cf:Nat) (cap wv tv hv:Value) (G:Nat) (hG:G<=1000000) (hE:∀ (args:Array Value) (W:World),(callFunc cf args).run prog W=.ok (.enter cf args) W) (d:Nat->Int->Bool) (c6:∀ (j:Nat) (a4:Int) (W:World),j<G->wm.grownBy W none->Calls prog cf #[.int .i64 (j:Int),.int .i64 a4,cap] W fun e w'=>e=.returned (.bool (d j a4))/\W=w') (t:Tk) (r:List Tk) (tx:List Int) (col:Int) (ch:List Int) (h:Pr pb wm w (.map (some fb)) (.map (some lb)) (.map (some nb)) (.func (.func cf) #[] #[cap]) wv tv hv r.reverse tx col ch)
  (M:qN B wm l G (t::r) tx col ch) (hb:(brk t.T t.ind t.fl).2=false) :
  Calls prog 98 #[.pointer (some ⟨pb,0,none⟩),t.val] w fun e w'=>e=.returned (.tuple #[])/\∃ its tx' Y a6 wv' tv',
   Pr pb wm w' (.map (some fb)) (.map (some lb)) (.map (some nb)) (.func (.func cf) #[] #[cap]) wv' tv' hv its.reverse tx' Y a6/\qN B wm l G its tx' Y a6/\szS its<szS (t::r)/\
   ∀ f,pm d (f+1) ((t::r).map Tk.pt) tx col ch=pm d f (its.map Tk.pt) tx' Y a6:=by
 have A:=M.tok t (by simp);have d1:=aCz r;have S:=M.tot;rw [aX] at S;have g1:r.reverse.length<=999999:=(by rw [List.length_reverse];omega);have c3:=M.lo;have b7:=M.hi;have b0 : -1000000<=col/\col<=1000000:=(by rw [aX] at c3 b7;omega);have b6:=M.bw.1;have a7 : -1000000<=t.bw/\t.bw<=1000000:=(by omega);have b2:=M.tl;rw [aX] at b2;obtain ⟨v,T,n,ind,fl,L,O⟩:=t;simp only at hb a7 b6;have c2:(Tk.mk v T n ind fl L O).val=nI v ind fl L O:=rfl;rw [c2];cases T with
 | leaf p=>
   have hk:=A.node.leafK;simp only [sz] at b2 S
   by_cases h1:p.k=1
   ·have hw:=fZ p.t;refine (aJj B pb wm w U l _ _ _ _ wv tv hv _ tx col ch h v p n ind fl L O A.node h1 hB b0 (by omega)).mono ?_;rintro e w' ⟨rfl,tv',X⟩;refine ⟨rfl,r,_,_,_,wv,tv',X,M.put p.t (aH p.t) (by simp [sz]) (by simp only [sz];omega) (by simp only [sz];omega),by rw [aX];have:=tX (.leaf p);simp only [sz] at this ⊢;omega,fun f=>?_⟩;simp only [List.map_cons,Tk.pt,pm,hb,h1];simp
   ·by_cases h2:p.k=2
    ·refine (aIq B pb wm w U l _ _ _ _ wv tv hv _ tx col ch h v p n ind fl L O A.node h2 b0 (by omega)).mono ?_;rintro e w' ⟨rfl,tv',X⟩;refine ⟨rfl,r,_,_,_,wv,tv',X,M.put [32] 1 (by simp [sz]) (by simp only [sz];omega) (by simp only [sz];omega),by rw [aX];have:=tX (.leaf p);simp only [sz] at this ⊢;omega,fun f=>?_⟩;simp only [List.map_cons,Tk.pt,pm,hb,h2];simp
    ·have b9:p.k=0\/p.k=3:=by
      simp only [brk] at hb
      by_cases h3:p.k=3
      ·exact .inr h3
      ·by_cases h4:p.k=4
       ·simp [h4] at hb
       ·by_cases h5:p.k=5
        ·simp [h5] at hb
        ·omega
     refine (aJE B pb wm w l _ _ _ _ wv tv hv _ tx col ch h v p n ind fl L O A.node b9).mono ?_;rintro e w' ⟨rfl,X⟩;have hp:=M.put [] 0 (by simp) (by omega) (by omega);rw [List.append_nil,Int.add_zero] at hp;refine ⟨rfl,r,_,_,_,wv,tv,X,hp,by rw [aX];have:=tX (.leaf p);simp only [sz] at this ⊢;omega,fun f=>?_⟩;simp only [List.map_cons,Tk.pt,pm,hb,h1,h2];simp
 | un p x=>
   have a5:p.k=8\/p.k=7:=by
    obtain ⟨b,u,_,_,h⟩:=A.node.un;rcases h with ⟨h,_⟩ | ⟨h,_⟩
    ·exact .inl h
    ·exact .inr h
   have E:=A.ok;simp only [okN] at E;have J:=A.hi;simp only [dO] at J;have N:=A.gb;simp only [bY] at N;have f3:=oS x E.2;have D:=A.lo;simp only at J D N;rcases a5 with h8 | h7
   ·rw [if_pos h8] at N;have d4:0<ch.length:=by rw [M.clen];omega
    have a8:∃ g lc H,hv=.slice (some ⟨g,0,none⟩) lc H/\lc=ch.length:=by
     rcases h.hrow.2 with ⟨_,hn⟩ | ⟨g,H,g2,b4,_⟩
     ·omega
     ·exact ⟨g,_,H,b4,rfl⟩
    obtain ⟨g,lc,H,rfl,b8⟩:=a8;have g0:=lJ fZ x;have f7:sz x<=140000:=by simp only [sz] at S;omega
    refine (aGZ B pb wm w U l fb lb nb f0 f1 f2 hC cf cap wv tv g H lc _ tx col ch h hE v p x n ind fl L O A.node h8 (by omega) b8 (by rw [M.clen];omega) (by rw [M.clen];omega) (d (n+bY x))
     (fun W hW=>c6 _ _ W (by omega) hW) (by omega) b0 a7).mono ?_
    rintro e w' ⟨rfl,u,wv',Z,X⟩;have d8:=E.1;refine ⟨rfl,(⟨u,x,n,ind,fl||qR (flatW x) col L (d (n+bY x)),L,O⟩:Tk)::r,_,_,_,wv',tv,by rw [List.reverse_cons];exact X,M.one ⟨Z,E.2,D,by simp only;omega,by simp only;omega⟩ rfl (by simp only [sz];omega) (by simp),by rw [aX,aX];simp only [sz];omega,fun f=>?_⟩;simp only [List.map_cons,Tk.pt,pm];rw [if_neg (by omega)]
   ·rw [if_neg (by omega)] at N;refine (aJG B pb wm w U l _ _ _ _ wv tv hv _ tx col ch h v p x n ind fl L O A.node h7 ⟨D,by omega⟩ ⟨E.1,by omega⟩ (by omega)).mono ?_;rintro e w' ⟨rfl,u,wv',Z,X⟩;refine ⟨rfl,(⟨u,x,n,ind+p.n,fl,L,O⟩:Tk)::r,_,_,_,wv',tv,by rw [List.reverse_cons];exact X,M.one ⟨Z,E.2,by simp only;omega,by simp only;omega,by simp only;omega⟩ rfl (by simp only [sz];omega) rfl,by rw [aX,aX];simp only [sz];omega,fun f=>?_⟩;simp only [List.map_cons,Tk.pt,pm];rw [if_pos h7]
 | bin p x y=>
   have a5:p.k=6\/p.k=9:=by
    obtain ⟨b,u,u',_,_,_,_,h⟩:=A.node.bin;rcases h with ⟨h,_⟩ | ⟨h,_⟩
    ·exact .inl h
    ·exact .inr h
   have E:=A.ok;simp only [okN] at E;have J:=A.hi;simp only [dO] at J;have N:=A.gb;simp only [bY] at N;have D:=A.lo;simp only at J D N;rcases a5 with h6 | h9
   ·have f4:=lG fZ y;have f5:sz y<=140000:=(by simp only [sz] at S;omega);refine (aK0 B pb wm w U l fb lb nb f0 f1 f2 hC _ wv tv hv _ tx col ch h v p x y n ind fl L O A.node h6 (by omega) (by omega) a7).mono ?_;rintro e w' ⟨rfl,u,u',wv',Z,c1,X⟩;refine ⟨rfl,(⟨u,x,n,ind,fl,if (leadT y).2=true then (leadT y).1 else (leadT y).1+L,if (leadT y).2=true then (leadT y).2 else O⟩:Tk)::(⟨u',y,n+bY x,ind,fl,L,O⟩:Tk)::r,_,_,_,wv',tv,by rw [List.reverse_cons,List.reverse_cons];exact X,M.two ⟨Z,E.1,D,by simp only;omega,by simp only;omega⟩ ⟨c1,E.2,D,by simp only;omega,by simp only;omega⟩ rfl rfl (by simp only [sz];omega),by rw [aX,aX,aX];simp only [sz];omega,fun f=>?_⟩;simp only [List.map_cons,Tk.pt,pm];rw [if_pos h6]
   ·refine (aK6 B pb wm w U l _ _ _ _ wv tv hv _ tx col ch h v p x y n ind fl L O A.node h9 (by omega)).mono ?_;rintro e w' ⟨rfl,u,wv',Z,X⟩
    have c0:aJ0 B wm l G ⟨u,if fl then y else x,if fl then n+bY x else n,ind,fl,L,O⟩:=by
     cases fl
     ·exact ⟨Z,E.1,D,by simp only [Bool.false_eq_true,if_false];omega,by simp only [Bool.false_eq_true,if_false];omega⟩
     ·exact ⟨Z,E.2,D,by simp only [if_true];omega,by simp only [if_true];omega⟩
    have b5:sz (if fl then y else x)<sz (.bin p x y):=by
     cases fl<;>simp [sz]<;>omega
    refine ⟨rfl,(⟨u,if fl then y else x,if fl then n+bY x else n,ind,fl,L,O⟩:Tk)::r,_,_,_,wv',tv,by rw [List.reverse_cons];exact X,M.one c0 rfl b5 rfl,by rw [aX,aX];simp only;omega,fun f=>?_⟩;simp only [List.map_cons,Tk.pt,pm];rw [if_neg (by omega)]
end Go.Proofs.YtgifkcpdihphlaaGreatDoor
