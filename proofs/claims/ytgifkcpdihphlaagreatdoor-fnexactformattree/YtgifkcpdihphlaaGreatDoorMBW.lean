import Derived.Deep.LoopGhost
import Derived.Test.YtgifkcpdihphlaaGreatDoorMBV
set_option maxHeartbeats 16000000
set_option maxRecDepth 100000
namespace Go.Proofs.YtgifkcpdihphlaaGreatDoor
open Tryz
open Go.RowKit
theorem aHs (B pb:Nat) (wm w:World) (d4:pb=wm.heap.size) (hB:B<=pb) (l:List Value) (fb lb nb:Nat) (f0 f1 f2:Value->Option Value) (hC:Ctx B wm l fb lb nb f0 f1 f2) (cf:Nat) (cap wv tv hv:Value) (G:Nat) (hG:G<=1000000) (hE:∀ (args:Array Value) (W:World),(callFunc cf args).run prog W=.ok (.enter cf args) W) (d:Nat->Int->Bool) (d9:∀ (j:Nat) (b3:Int) (W:World),j<G->wm.grownBy W none->Calls prog cf #[.int .i64 (j:Int),.int .i64 b3,cap] W fun e w'=>e=.returned (.bool (d j b3))/\W=w') (its:List Tk) (tx:List Int) (col:Int) (ch:List Int) (h:Pr pb wm w (.map (some fb)) (.map (some lb)) (.map (some nb)) (.func (.func cf) #[] #[cap]) wv tv hv its.reverse tx col ch)
  (hi:qN B wm l G its tx 0 ch) :
  Calls prog 54 #[.pointer (some ⟨pb,0,none⟩)] w fun e w'=>e=.returned (.tuple #[])/\∃ wv' tv' f9,
   Pr pb wm w' (.map (some fb)) (.map (some lb)) (.map (some nb)) (.func (.func cf) #[] #[cap]) wv' tv' hv [] (pm d (szS its+1) (its.map Tk.pt) tx 0 ch).1 f9 (pm d (szS its+1) (its.map Tk.pt) tx 0 ch).2:=by
 obtain ⟨i0,h8,j2,i7,i5⟩:=info_parts lL;have k4:∀ (x:Bool) (w:World),(Op.unary .not (.bool x)).run prog w=.ok (.bool (!x)) w:=fun _ _=>rfl;have HL:=aB (fun (t:Tk) (r:List Tk) (tx:List Int) (col:Int) (ch:List Int) (W:World) (wv tv:Value)=>aJ9 B pb wm W d4 hB l fb lb nb f0 f1 f2 hC cf cap wv tv hv G hG hE d d9 t r tx col ch);obtain ⟨R,hR⟩:∃ R,R=pm d (szS its+1) (its.map Tk.pt) tx 0 ch:=⟨_,rfl⟩;rw [<- hR];have H0:=aB h;have d3:=aB hi;have Z:=aB hR;clear d4 hB hC hG hE d9 h hi hR
 go_enter func54,ntmps54
 go_wp2
 go_step3
 go_wp2
 go_step3
 go_wp2
 go_loopg [2] (szS its) (fun k v wr=>∃ (its:List Tk) (tx:List Int) (col:Int) (ch:List Int) (wv tv:Value) (i:Int) (f:Nat),v=.int .i64 i/\0<=i/\i<=4000/\
  Pr pb wm wr (.map (some fb)) (.map (some lb)) (.map (some nb)) (.func (.func cf) #[] #[cap]) wv tv hv its.reverse tx col ch/\qN B wm l G its (tx++List.replicate i.toNat 32) i ch/\
  szS its<f/\R=pm d f (its.map Tk.pt) (tx++List.replicate i.toNat 32) i ch/\k=szS its)
 case atStart=>exact ⟨its,tx,col,ch,wv,tv,0,szS its+1,rfl,by omega,by omega,H0.out,by simpa using d3.out,by omega,by simpa using Z.out,rfl⟩
 case round=>
  clear H0 d3 Z;obtain ⟨its,tx,col,ch,wv,tv,i,f,rfl,j5,h6,J,hI,hf,hR,rfl⟩:=hrel;have O:=hI.tl;have HB:=aB (aBq pb wm wr _ _ _ _ wv tv hv its.reverse tx col ch J i j5 h6 (by rw [List.length_append] at O;omega));have HI:=aB hI;have Z:=aB hR;have Hf:=aB hf;clear J hI hR hf O
  go_wp2_with fail
  refine HB.out.mono ?_;rintro e w1 ⟨rfl,l8,d6⟩;have g0:=aB d6;clear d6 HB;go_wp2
  go_loopg [] (szS its) (fun k wr=>∃ (A:List Tk) (tx:List Int) (col:Int) (ch:List Int) (wv tv:Value) (f:Nat),
   Pr pb wm wr (.map (some fb)) (.map (some lb)) (.map (some nb)) (.func (.func cf) #[] #[cap]) wv tv hv A.reverse tx col ch/\qN B wm l G A tx col ch/\
   szS A<f/\R=pm d f (A.map Tk.pt) tx col ch/\k=szS A/\szS A<=szS its)
  case atStart=>exact ⟨its,_,_,_,_,_,f,g0.out,HI.out,Hf.out,Z.out,rfl,Nat.le_refl _⟩
  case round=>
   clear g0 HI Z Hf;obtain ⟨A,tx,col,ch,wv,tv,f,J,hI,hf,hR,rfl,c2⟩:=hrel;cases A with
   | nil=>
     have h7:=aB (aHp pb wm wr _ _ _ _ wv tv hv tx col ch J);have g2:=J.lt
     have Z:Hid (R=(tx,ch)):=by
      obtain ⟨f',rfl⟩:∃ f',f=f'+1:=⟨f - 1,by omega⟩;exact hR
     clear J hI hR hf c2
     go_wp2_with fail
     refine h7.out.mono ?_;rintro e w2 ⟨rfl,L⟩;have M:=aB (L.K (World.grownBy_alloc w2 (.cells #[.nilIface,.int .i64 0,.bool false,.int .i64 0,.bool false] 157) none));clear L;go_wp2
     try rw [Exit.noGoto_ret]
     go_returns
     exact ⟨rfl,wv,tv,col,by rw [Z.out];exact M.out⟩
   | cons t r=>
     have E:=hI.tok t (by simp);have c0:=aCz r;have b5:=hI.tot;have O:=hI.tl;rw [aX] at b5 O;have c6:=tX t.T;rw [List.reverse_cons] at J;have U:=aB (aIY pb wm wr _ _ _ _ wv tv hv r.reverse t tx col ch J E.node.iface (by rw [List.length_reverse];omega));have D:=aB (fun W=>aEO B t.v t.T t.ind t.fl t.bw t.be W wm E.node.rep);have j6:=oS t.T E.ok;have N:=aMe (T:=t.T) (fl:=t.fl) E.lo (by have:=E.hi;omega);have c7:=aB (fun W wv tv hp hb=>HL.out t r tx col ch W wv tv hp hI hb);have b1:=aB (hI.line (brk t.T t.ind t.fl).1 N.1 N.2);have f8:=aB c2;obtain ⟨f',rfl⟩:∃ f',f=f'+1:=⟨f - 1,by omega⟩;have Hf:Hid (szS r<f'):=(by rw [aX] at hf;unfold Hid;omega);have Z:=aB hR;have i1:Hid (szS r<szS (t::r)):=(by rw [Hid,aX];omega);have j9:tx.length<=600000000:=(by omega);obtain ⟨tt,u,c8⟩:=E.node.iface;have HF:=aB hf;clear J hI hR hf c2 E b5 O j6 c0 c6;obtain ⟨l5,T,tn,ind,fl,bw,be⟩:=t;simp only at c8 D;subst c8;obtain ⟨bi,a4⟩:∃ bi,bi=(brk T ind fl).1:=⟨_,rfl⟩;cases hb:(brk T ind fl).2
     ·have HN:Hid ((brk T ind fl).2=false):=hb;rw [hb] at D;simp only at N;rw [<- a4] at D N;clear hb b1 a4;unfold nI at D;unfold Tk.val at U
      go_wp2_with fail
      refine U.out.mono ?_;rintro e w2 ⟨rfl,c1,L⟩;have gA:=World.grownBy_alloc w2 (.cells #[.iface tt u,.int .i64 ind,.bool fl,.int .i64 bw,.bool be] 157) none;have M:=aB (L.K gA);clear L U gA
      go_wp2_with fail
      refine (D.out _).mono ?_;rintro e w3 ⟨rfl,g3⟩;have g5:=aB (M.out.K g3);have z0:=g3.cell (a:=⟨w2.heap.size,0,none⟩) (v:=.iface tt u) (by simp [go_sem]) (by simp);have z1:=g3.cell (a:=⟨w2.heap.size,1,none⟩) (v:=.int .i64 ind) (by simp [go_sem]) (by simp);have z2:=g3.cell (a:=⟨w2.heap.size,2,none⟩) (v:=.bool fl) (by simp [go_sem]) (by simp);have z3:=g3.cell (a:=⟨w2.heap.size,3,none⟩) (v:=.int .i64 bw) (by simp [go_sem]) (by simp);have z4:=g3.cell (a:=⟨w2.heap.size,4,none⟩) (v:=.bool be) (by simp [go_sem]) (by simp);have c9:=aB (c7.out w3 c1 tv g5.out HN.out);clear c7 g5 M D g3
      go_wp2_with fail
      refine c9.out.mono ?_;rintro e w4 ⟨rfl,b8,j0,d8,g9,h9,h0,f7,g4,b7,f3⟩;have j3:=aB f7;have j4:=aB g4;have b9:=aB b7;have i9:=aB (f3 f');clear f7 g4 b7 f3 c9;go_wp2
      go_roundg (szS b8)
      case measure=>exact b9.out
      case rel=>
       have h1:=b9.out;have h2:=HF.out;have h3:=f8.out;exact ⟨b8,j0,d8,g9,h9,h0,f',j3.out,j4.out,by omega,Z.out.trans i9.out,rfl,by omega⟩
     ·have HN:Hid ((brk T ind fl).2=true):=hb;rw [hb] at D;simp only at N b1;rw [<- a4] at D N b1
      have i4:Hid (R=pm d f' (r.map Tk.pt) (tx++[10]++List.replicate bi.toNat 32) bi ch):=by
       rw [Hid,Z.out,List.map_cons];cases T with
       | leaf p=>simp only [Tk.pt,pm,HN.out,<- a4,if_true]
       | un p x=>simp [brk] at hb
       | bin p x y=>simp [brk] at hb
      clear hb a4 c7 Z;unfold nI at D;unfold Tk.val at U;obtain ⟨f4,d7⟩:=N
      go_wp2_with fail
      refine U.out.mono ?_;rintro e w2 ⟨rfl,c1,L⟩;have gA:=World.grownBy_alloc w2 (.cells #[.iface tt u,.int .i64 ind,.bool fl,.int .i64 bw,.bool be] 157) none;have M:=aB (L.K gA);clear L U gA
      go_wp2_with fail
      refine (D.out _).mono ?_;rintro e w3 ⟨rfl,g3⟩;have J:=M.out.K g3;have HQ:=aB J;have c5:=J.c5;have f5:=J.fz 5;have g2:=J.lt;have O:=World.ownsRow.lt J.trow;obtain ⟨ta,k8,i2,_,_⟩:=bD J.trow;have S:w3.grownBy (w3.alloc (.cells #[.int .u8 10] 5)) none:=gWA;have d0:tv.ownBlock≠some pb:=fun e=>by have:=O pb e;omega
      have g1:=aB d0;have b2:w3.ownsRow (pb+1) 5 1 tv tx.length (tx.map (Value.int .u8)):=J.trow;have d2:=aB b2;have g7:=S.cell c5 (by simp);have i6:(w3.alloc (.cells #[.int .u8 10] 5)).frozen? ⟨pb,5,none⟩=false:=(World.frozen?_of_block (S.block pb g2 (by simp))).trans f5;have h4:=aB S;subst i2;clear d0 J b2 S g3 M D
      go_wp2_with (at_builtin;refine wpList_append_own_at _ rfl _ _ 27 rfl (pb+1) 5 i0 (.int .u8 0) 1 1 underlying27 h8 j2 i7 i5 rfl (by decide) _ _ _ rfl (World.ownsRow.alloc d2.out _) ⟨w3.heap.size,0,none⟩ 1 1 [.int .u8 10] rfl rfl (qE _ _ _) (by intro u hu;simp at hu;subst hu;rfl) (by unfold maxLen;omega) (by omega) (by simp;omega) ?_;intro v1 w4 Y H _ f6;have x5:=H.cell g7 (fun e=>g1.out e.symm);have y5:w4.frozen? ⟨pb,5,none⟩=false:=(World.frozen?_of_block (H.block pb (by simp;omega) (fun e=>g1.out e.symm))).trans i6;obtain ⟨va,b4,g8,_,_⟩:=bD Y;subst g8)
      go_roundg (szS r)
      case measure=>
       have h1:=i1.out;have h3:=f8.out;omega
      case rel=>
       refine ⟨r,tx++[10],col,ch,c1,.slice va (tx.length+1) b4,bi,f',rfl,f4,d7,?_,b1.out,Hf.out,i4.out,rfl⟩;refine Pr.X (HQ.out.K h4.out) (tv':=.slice va (tx.length+1) b4) H ?_ ?_
       ·unfold OwB Ow;rw [List.map_append,List.length_append];exact Y
       ·rcases f6 with e | e
        ·exact .inl e
        ·exact .inr ⟨_,e,by simp⟩
theorem xZ {a:List Int} (E:Bys a) (h:0<=aH a):∃ q,q.all bW=true/\a=aQ q/\aH a=q.length:=by
 have y:(eM a).2.1=0:=by
  apply Classical.byContradiction;intro D;rw [aB6 D] at h;omega
 have u:=uB E y;have A:aH a=(eM a).1.length:=by unfold aH;rw [if_pos y]
 by_cases j:(eM a).1.all bW=true
 ·rw [qH _ j] at u;exact ⟨_,j,(by simpa using congrArg Prod.fst u.symm),A⟩
 ·rw [aDV _ (by simpa using j)] at u;simp at u
theorem aHb {a b:List Int} (H:Bys a) (A:Bys b) (y:0<=aH a) (J:0<=aH b):aH (a++b)=aH a+aH b:=by
 obtain ⟨q,j,G,u⟩:=xZ H y;obtain ⟨r,D,E,L⟩:=xZ A J;have h:(q++r).all bW=true:=(by rw [List.all_append,j,D];rfl);have:=aAi h;rw [qH _ h] at this;simp only at this;rw [show aQ (q++r)=a++b by rw [G,E];simp [aQ]] at this;rw [this,u,L];simp
def KOk:Tr->Prop
 | .leaf p=>(0<=p.k/\p.k<=5)/\(p.k=1->0<=aH p.t/\Bys p.t)
 | .un p x=>(p.k=7\/p.k=8)/\KOk x
 | .bin p x y=>(p.k=6\/p.k=9)/\KOk x/\KOk y
theorem zC {doc:List Pc} {st:List Int} (u:∀ p∈doc,lY p=true) (A:∀ p∈doc,Bys p.t):∀ {T:Tr} {a b:Nat},Seg doc st T a b->KOk T
 | .leaf p,a,b,h=>by
   obtain ⟨_,E,j,_⟩:=h;have H:=List.mem_of_getElem? E;have D:=(fE p).1 (u p H);refine ⟨⟨D.1.1,?_⟩,fun e=>⟨(D.2.1 e).2,A p H⟩⟩;have:=D.1;unfold ar at j
   repeat' split at j
   all_goals omega
 | .un p x,a,b,h=>by
   obtain ⟨m,_,E,j,_,G⟩:=h;refine ⟨?_,zC u A G⟩;unfold ar at j
   repeat' split at j
   all_goals omega
 | .bin p x y,a,b,h=>by
   obtain ⟨c,m,_,E,j,_,G,J⟩:=h;refine ⟨?_,zC u A G,zC u A J⟩;unfold ar at j
   repeat' split at j
   all_goals omega
theorem kQ:∀ (T:Tr) (out:List Int),aE T out=(aE T []).map (out++·)
 | .leaf p,out=>by
   simp only [aE]
   repeat' split
   all_goals simp
 | .un p x,out=>by simp only [aE];exact kQ x out
 | .bin p x y,out=>by
   simp only [aE]
   split
   ·rw [kQ x out];cases aE x [] with
    | none=>rfl
    | some o=>simp only [Option.map_some,Option.bind_some];rw [kQ y (out++o),kQ y o];cases aE y []<;>simp
   ·exact kQ y out
theorem wW:∀ (T:Tr),KOk T->(∀ j,aE T []=some j->flatW T=aH j/\0<=flatW T/\Bys j)/\(aE T []=none->flatW T = -1)
 | .leaf p,h=>by
   simp only [KOk] at h;simp only [aE,flatW]
   by_cases G:p.k=1
   ·have:=h.2 G;simp only [G];simp;exact ⟨this.1,this.2⟩
   ·by_cases J:p.k=2
    ·simp only [J];simp;refine ⟨by decide,fun z u=>by simp at u;omega⟩
    ·by_cases E:p.k=0\/p.k=3
     ·rw [if_pos E,if_neg G,if_neg J,if_neg (by omega)];refine ⟨fun j e=>?_,by simp⟩;cases e;exact ⟨by decide,by omega,fun z u=>by simp at u⟩
     ·rw [if_neg E,if_neg G,if_neg J,if_neg G,if_neg J,if_pos (by omega)];simp
 | .un p x,h=>by
   simp only [KOk] at h;simp only [aE,flatW];exact wW x h.2
 | .bin p x y,h=>by
   simp only [KOk] at h;have M:=wW x h.2.1;have L:=wW y h.2.2;simp only [aE,flatW]
   by_cases H:p.k=6
   ·rw [if_pos H,if_pos H];cases ex:aE x [] with
    | none=>simp [M.2 ex]
    | some o=>
      have D:=M.1 o ex;simp only [Option.bind_some];rw [kQ y o];cases N:aE y [] with
      | none=>simp [L.2 N]
      | some q=>
        have A:=L.1 q N;rw [if_neg (by omega)];refine ⟨fun j e=>?_,by simp⟩;simp at e;subst e;refine ⟨?_,by omega,fun z u=>?_⟩
        ·rw [aHb D.2.2 A.2.2 (by omega) (by omega)];omega
        ·rcases List.mem_append.1 u with u | u
         ·exact D.2.2 z u
         ·exact A.2.2 z u
   ·rw [if_neg H,if_neg H];exact L
def szP (its:List PT):Nat:=szs (its.map (·.T))
theorem dJ (t:PT) (r:List PT):szP (t::r)=sz t.T+szP r:=rfl
theorem aMA (its:List Tk):szP (its.map Tk.pt)=szS its:=by unfold szP szS;rw [List.map_map];rfl
theorem uN (d:Nat->Int->Bool):∀ (f j:Nat) (its:List PT) (tx:List Int) (col:Int) (ch:List Int),szP its<f->szP its<j->pm d f its tx col ch=pm d j its tx col ch
 | 0,_,_,_,_,_,h,_=>by omega
 | _+1,0,_,_,_,_,_,h=>by omega
 | f+1,j+1,[],_,_,_,_,_=>rfl
 | f+1,j+1,⟨.leaf p,n,ind,fl,bw,be⟩::r,tx,col,ch,h1,h2=>by
   rw [dJ] at h1 h2;simp only [sz] at h1 h2;have u:∀ a b c,pm d f r a b c=pm d j r a b c:=fun a b c=>uN d f j r a b c (by omega) (by omega);simp only [pm,u]
 | f+1,j+1,⟨.un p x,n,ind,fl,bw,be⟩::r,tx,col,ch,h1,h2=>by
   rw [dJ] at h1 h2;simp only [sz] at h1 h2;have u:∀ i g e a b c,pm d f (⟨x,n,i,g,bw,e⟩::r) a b c=pm d j (⟨x,n,i,g,bw,e⟩::r) a b c:=fun i g e a b c=>uN d f j _ a b c (by rw [dJ];simp only;omega) (by rw [dJ];simp only;omega);simp only [pm,u]
 | f+1,j+1,⟨.bin p x y,n,ind,fl,bw,be⟩::r,tx,col,ch,h1,h2=>by
   rw [dJ] at h1 h2;simp only [sz] at h1 h2
   have u:∀ A D a b c,pm d f (⟨x,n,ind,fl,A,D⟩::⟨y,n+bY x,ind,fl,bw,be⟩::r) a b c=pm d j (⟨x,n,ind,fl,A,D⟩::⟨y,n+bY x,ind,fl,bw,be⟩::r) a b c:=
    fun A D a b c=>uN d f j _ a b c (by rw [dJ,dJ];simp only;omega) (by rw [dJ,dJ];simp only;omega)
   have E:∀ a b c,pm d f (⟨if fl then y else x,if fl then n+bY x else n,ind,fl,bw,be⟩::r) a b c=pm d j (⟨if fl then y else x,if fl then n+bY x else n,ind,fl,bw,be⟩::r) a b c:=
    fun a b c=>uN d f j _ a b c (by rw [dJ];cases fl<;>simp<;>omega) (by rw [dJ];cases fl<;>simp<;>omega)
   simp only [pm,u,E]
def pmL (d:Nat->Int->Bool) (its:List PT) (tx:List Int) (col:Int) (ch:List Int):List Int × List Int:=pm d (szP its+1) its tx col ch
theorem vQ {d:Nat->Int->Bool} {f:Nat} {its:List PT} {tx:List Int} {col:Int} {ch:List Int} (h:szP its<f):pm d f its tx col ch=pmL d its tx col ch:=uN d f _ its tx col ch h (by omega)
section
variable (d:Nat->Int->Bool)
theorem aKI (tx:List Int) (col:Int) (ch:List Int):pmL d [] tx col ch=(tx,ch):=rfl
theorem aD5 (p:Pc) (n:Nat) (ind:Int) (fl:Bool) (j:Int) (u:Bool) (r:List PT) (tx:List Int) (col:Int) (ch:List Int):pmL d (⟨.leaf p,n,ind,fl,j,u⟩::r) tx col ch =
  if (brk (.leaf p) ind fl).2=true then pmL d r (tx++[10]++List.replicate (brk (.leaf p) ind fl).1.toNat 32) (brk (.leaf p) ind fl).1 ch
  else if p.k=1 then pmL d r (tx++p.t) (col+aH p.t) ch
  else if p.k=2 then pmL d r (tx++[32]) (col+1) ch
  else pmL d r tx col ch:=by
 rw [pmL,dJ];simp only [pm,sz];have h:∀ a b c,pm d (p.t.length+1+szP r) r a b c=pmL d r a b c:=fun a b c=>vQ (by omega);simp only [h]
theorem aIl (p:Pc) (x:Tr) (n:Nat) (ind:Int) (fl:Bool) (j:Int) (u:Bool) (r:List PT) (tx:List Int) (col:Int) (ch:List Int):pmL d (⟨.un p x,n,ind,fl,j,u⟩::r) tx col ch =
  if p.k=7 then pmL d (⟨x,n,ind+p.n,fl,j,u⟩::r) tx col ch
  else pmL d (⟨x,n,ind,fl||qR (flatW x) col j (d (n+bY x)),j,u⟩::r) tx col (ch.set (n+bY x) (if (fl||qR (flatW x) col j (d (n+bY x)))=true then 1 else 2)):=by
 rw [pmL,dJ];simp only [pm,sz];have h:∀ i g a b c,pm d (p.t.length+1+sz x+szP r) (⟨x,n,i,g,j,u⟩::r) a b c=pmL d (⟨x,n,i,g,j,u⟩::r) a b c:=fun i g a b c=>vQ (by rw [dJ];simp only;omega);simp only [h]
theorem aGQ (p:Pc) (x y:Tr) (n:Nat) (ind:Int) (fl:Bool) (h:Int) (j:Bool) (r:List PT) (tx:List Int) (col:Int) (ch:List Int):pmL d (⟨.bin p x y,n,ind,fl,h,j⟩::r) tx col ch =
  if p.k=6 then pmL d (⟨x,n,ind,fl,if (leadT y).2=true then (leadT y).1 else (leadT y).1+h,if (leadT y).2=true then (leadT y).2 else j⟩::⟨y,n+bY x,ind,fl,h,j⟩::r) tx col ch
  else pmL d (⟨if fl then y else x,if fl then n+bY x else n,ind,fl,h,j⟩::r) tx col ch:=by
 rw [pmL,dJ];simp only [pm,sz]
 have D:∀ u A a b c,pm d (p.t.length+1+(sz x+sz y)+szP r) (⟨x,n,ind,fl,u,A⟩::⟨y,n+bY x,ind,fl,h,j⟩::r) a b c=pmL d (⟨x,n,ind,fl,u,A⟩::⟨y,n+bY x,ind,fl,h,j⟩::r) a b c:=
  fun u A a b c=>vQ (by rw [dJ,dJ];simp only;omega)
 have E:∀ a b c,pm d (p.t.length+1+(sz x+sz y)+szP r) (⟨if fl then y else x,if fl then n+bY x else n,ind,fl,h,j⟩::r) a b c=pmL d (⟨if fl then y else x,if fl then n+bY x else n,ind,fl,h,j⟩::r) a b c:=
  fun a b c=>vQ (by rw [dJ];cases fl<;>simp<;>omega)
 simp only [D,E]
theorem rX:∀ (T:Tr) (n:Nat) (ind j:Int) (u:Bool) (r:List PT) (tx:List Int) (col:Int) (ch h:List Int),KOk T->aE T []=some h->
  pmL d (⟨T,n,ind,true,j,u⟩::r) tx col ch=pmL d r (tx++h) (col+flatW T) (qL T n ch)
 | .leaf p,n,ind,j,u,r,tx,col,ch,h,hk,ht=>by
   simp only [KOk] at hk;rw [aD5];simp only [aE] at ht
   have O:(brk (.leaf p) ind true).2=false:=by
    simp only [brk]
    by_cases S:p.k=4\/p.k=5
    ·rw [if_neg (by omega),if_neg (by omega),if_neg (by omega)] at ht;cases ht
    ·by_cases D:p.k=2\/p.k=3
     ·simp [D]
     ·rw [if_neg D,if_neg (by omega),if_neg (by omega)]
   rw [if_neg (by rw [O];simp)];simp only [flatW,qL]
   by_cases E:p.k=1
   ·rw [if_pos E];simp only [E] at ht ⊢;simp at ht;subst ht;simp
   ·rw [if_neg E]
    by_cases G:p.k=2
    ·rw [if_pos G];simp only [G] at ht ⊢;simp at ht;subst ht;simp
    ·rw [if_neg G,if_neg E,if_neg G]
     by_cases A:p.k=0\/p.k=3
     ·rw [if_pos A] at ht;cases ht;rw [if_neg (by omega)];simp
     ·rw [if_neg A,if_neg E,if_neg G] at ht;cases ht
 | .un p x,n,ind,j,u,r,tx,col,ch,h,hk,ht=>by
   simp only [KOk] at hk;simp only [aE] at ht;rw [aIl];simp only [flatW,qL];rcases hk.1 with M | N
   ·rw [if_pos M,if_neg (by omega)];exact rX x n _ j u r tx col ch h hk.2 ht
   ·rw [if_neg (by omega),if_pos N];simp only [Bool.true_or,if_true];exact rX x n _ j u r tx col _ h hk.2 ht
 | .bin p x y,n,ind,j,u,r,tx,col,ch,h,hk,ht=>by
   simp only [KOk] at hk;simp only [aE] at ht;rw [aGQ];simp only [flatW,qL];rcases hk.1 with H | U
   ·rw [if_pos H] at ht;rw [if_pos H,if_pos H,if_pos H];cases ex:aE x [] with
    | none=>rw [ex] at ht;simp at ht
    | some o=>
      rw [ex,Option.bind_some,kQ y o] at ht;cases J:aE y [] with
      | none=>rw [J] at ht;simp at ht
      | some q=>
        rw [J] at ht;simp at ht;subst ht;have Y:=(wW x hk.2.1).1 o ex;have X:=(wW y hk.2.2).1 q J;rw [rX x n ind _ _ _ tx col ch o hk.2.1 ex,rX y (n+bY x) ind j u r _ _ _ q hk.2.2 J,if_neg (by omega)];rw [List.append_assoc,Int.add_assoc]
   ·rw [if_neg (by omega)] at ht;have L:¬ p.k=6:=(by omega);simp only [if_neg L,if_true];exact rX y (n+bY x) ind j u r tx col ch h hk.2.2 ht
end
def Mt:List pZ->List PT->Prop
 | [],[]=>True
 | it::its,t::ts=>(t.T=it.T/\t.n=it.n/\t.ind=it.ind/\t.fl=false/\t.bw=kB (its.map (·.T)))/\KOk it.T/\Mt its ts
 | _,_=>False
theorem aHZ {p:Pc} {ind:Int} (h:p.k=2\/p.k=3\/p.k=4):brk (.leaf p) ind false=(ind,true):=by
 simp only [brk]
 by_cases j:p.k=2\/p.k=3
 ·rw [if_pos j];rfl
 ·rw [if_neg j,if_pos (by omega)]
theorem aLl {p:Pc} {ind:Int} (h:p.k=5):brk (.leaf p) ind false=(0,true):=by
 simp only [brk];rw [if_neg (by omega),if_neg (by omega),if_pos h]
theorem aD6 {p:Pc} {ind:Int} (h:p.k=0\/p.k=1):brk (.leaf p) ind false=(0,false):=by
 simp only [brk];rw [if_neg (by omega),if_neg (by omega),if_neg (by omega)]
theorem mH (width:Int):∀ (m:Nat) (its:List pZ) (ts:List PT) (out met:List Int) (col:Int),szs (trs its)<=m->Mt its ts->
  jZ width none its out met col=some (pmL (fun _ j=>decide (j<=width)) ts out col met)
 | m,[],[],out,met,col,_,_=>by rw [aJI,aKI]
 | m,⟨.leaf p,n,ind⟩::its,⟨T,n',ind',fl,bw,be⟩::ts,out,met,col,hm,h=>by
   simp only [Mt] at h;obtain ⟨⟨rfl,rfl,rfl,rfl,rfl⟩,u,E⟩:=h;rw [bK] at hm;simp only [szs,sz] at hm;cases m with
   | zero=>omega
   | succ m=>
   have ih:=fun o c=>mH width m its ts o met c (by omega) E;simp only [KOk] at u;rw [aHu,aD5]
   by_cases J:p.k=1
   ·rw [if_pos J,aD6 (.inr J),if_neg (by simp),if_pos J,ih]
   ·rw [if_neg J]
    by_cases O:p.k=5
    ·rw [if_pos O,aLl O,if_pos rfl,ih];simp
    ·rw [if_neg O]
     by_cases A:p.k=2\/p.k=3\/p.k=4
     ·rw [if_pos A,aHZ A,if_pos rfl,ih];simp [aJ]
     ·rw [if_neg A,aD6 (.inl (by omega)),if_neg (by simp),if_neg J,if_neg (by omega),ih]
 | m,⟨.un p x,n,ind⟩::its,⟨T,n',ind',fl,bw,be⟩::ts,out,met,col,hm,h=>by
   simp only [Mt] at h;obtain ⟨⟨rfl,rfl,rfl,rfl,rfl⟩,u,E⟩:=h;rw [bK] at hm;simp only [szs,sz] at hm;cases m with
   | zero=>omega
   | succ m=>
   simp only [KOk] at u;have G:=fun i o N c=>mH width m (⟨x,n',i⟩::its) (⟨x,n',i,false,kB (its.map (·.T)),be⟩::ts) o N c (by rw [bK];simp only [szs];omega) ⟨⟨rfl,rfl,rfl,rfl,rfl⟩,u.2,E⟩;have M:=fun o N c=>mH width m its ts o N c (by omega) E;have H:=wW x u.2;rw [aKy,aIl];rcases u.1 with U | Y
   ·rw [if_pos U,if_pos U];exact G _ _ _ _
   ·rw [if_neg (by omega),if_neg (by omega)];simp only [Bool.false_or];cases ex:aE x [] with
    | none=>
      have L:qR (flatW x) col (kB (its.map (·.T))) (fun j=>decide (j<=width))=false:=(by unfold qR;rw [if_pos (H.2 ex)]);rw [L];simp only [Bool.false_eq_true,if_false];exact G _ _ _ _
    | some text=>
      have S:=H.1 text ex
      have L:qR (flatW x) col (kB (its.map (·.T))) (fun j=>decide (j<=width))=decide (col+aH text+kB (its.map (·.T))<=width):=by
       unfold qR;rw [if_neg (by omega),S.1]
      rw [L]
      by_cases D:col+aH text+kB (its.map (·.T))<=width
      ·simp only [if_pos D,decide_eq_true D,if_true];rw [rX _ x _ _ _ _ _ _ _ _ text u.2 ex,M];simp only [qL,if_pos Y,S.1]
      ·simp only [if_neg D,decide_eq_false D,Bool.false_eq_true,if_false];exact G _ _ _ _
 | m,⟨.bin p x y,n,ind⟩::its,⟨T,n',ind',fl,bw,be⟩::ts,out,met,col,hm,h=>by
   simp only [Mt] at h;obtain ⟨⟨rfl,rfl,rfl,rfl,rfl⟩,u,E⟩:=h;rw [bK] at hm;simp only [szs,sz] at hm;cases m with
   | zero=>omega
   | succ m=>
   simp only [KOk] at u;rw [aH8,aGQ];rcases u.1 with X | Z
   ·rw [if_pos X,if_pos X];refine mH width m _ _ _ _ _ (by rw [bK,bK];simp only [szs];omega) ⟨⟨rfl,rfl,rfl,rfl,?_⟩,u.2.1,⟨rfl,rfl,rfl,rfl,rfl⟩,u.2.2,E⟩;simp only [List.map_cons,kB]
   ·rw [if_neg (by omega),if_neg (by omega)];simp only [Bool.false_eq_true,if_false];exact mH width m _ _ _ _ _ (by rw [bK];simp only [szs];omega) ⟨⟨rfl,rfl,rfl,rfl,rfl⟩,u.2.1,E⟩
 | _,[],_::_,_,_,_,_,h=>h.elim
 | _,_::_,[],_,_,_,_,h=>by cases h
theorem uA.later {B:Nat} {w wm:World} {l:List Value} {f:Value->Option Value} {F:Tr->Value} (G:∀ T y,Sim T y->F T=F y) {u:Value} {T:Tr} (H:Rep (fun _=>False) B w u T) (J:cV w u T l) (h:uA B w l f F) (L:w.grownBy wm none):uA B wm l f F:=by
 intro v hv D A;obtain ⟨i,E⟩:=List.mem_iff_getElem?.1 hv;obtain ⟨y,_,j,_⟩:=kX H J i v E;rw [h v hv y j,G y D (vP (j.K L) A)]
theorem aA8 (B:Nat) (nv u0:Value) (O:Tr) (l:List Value) (w:World) (G:w.ownsRow B 153 1 nv l.length l) (hr:Rep (fun _=>False) B w u0 O) (hp:cV w u0 O l) (ho:lH (fun _=>False) w l) (c5:sz O<=140000) (hl:l.length<=40000) (cf:Nat) (cap:Value) :
  Calls prog 52 #[nv,.func (.func cf) #[] #[cap]] w fun e w'=>∃ wm fb lb nb f0 f1 f2 wv hv,e=.returned (.pointer (some ⟨wm.heap.size,0,none⟩))/\Ctx B wm l fb lb nb f0 f1 f2/\cE B wm l u0 O 0/\w.grownBy wm none/\
   Pr wm.heap.size wm w' (.map (some fb)) (.map (some lb)) (.map (some nb)) (.func (.func cf) #[] #[cap]) wv (.slice none 0 0) hv [⟨u0,O,0,0,false,0,false⟩] [] 0 (List.replicate (gV l) 0):=by
 have hW:=aAa B nv u0 O l w G hr hp ho c5;obtain ⟨a,g7,f9,h5,j5⟩:=bD G;have HR:=bJ G;have A:=bJ hr;have H:=bJ hp;have a4:=bJ ho;subst f9;clear G hr hp ho
 go_enter func52,ntmps52
 go_wp2_with fail
 refine hW.mono ?_;rintro e w1 ⟨f0,n0,rfl,c2,b9,X⟩;have U:∀ {W W':World},W.grownBy W' none->∀ b,b<W.heap.size->¬ False->W'.heap[b]?=W.heap[b]?:=fun h b hb _=>h.block b hb (by simp);have hL:=aEG B _ u0 O l w1 (gC HR.out X (by simp)) (A.out.K X) (H.out.K A.out X) (a4.out.turn (U X) (fun _ _ h=>h)) c5;clear hW
 go_wp2_with fail
 refine hL.mono ?_;rintro e w2 ⟨f1,n1,rfl,b4,c4,g2⟩;have J:=aA X g2;have hG:=wZ B _ u0 O l w2 (gC HR.out J (by simp)) (A.out.K J) (H.out.K A.out J) (a4.out.turn (U J) (fun _ _ h=>h));clear hL
 go_wp2_with fail
 refine hG.mono ?_;rintro e y ⟨f2,rfl,a8,b7,g3⟩;have D:=aA J g3
 have Y:Ctx B y l w.heap.size w1.heap.size w2.heap.size f0 f1 f2:=
  ⟨a4.out.turn (U D) (fun _ _ h=>h),⟨n0,c2.K (aA g2 g3)⟩,⟨n1,b4.K g3⟩,a8,uA.later aFZ A.out H.out b9 D,uA.later aGJ (A.out.K X) (H.out.K A.out X) c4 (aA g2 g3),b7⟩
 have c8:=bJ Y;have a7:Hid (cE B y l u0 O 0):=⟨[],l,[],by simp,H.out.K A.out D,A.out.K D,rfl⟩;have S:=bJ D;obtain ⟨i0,hi,f7,f4,d8⟩:=info_parts aAH;have h8:=aDd l;have c6:=(a8.K (World.grownBy_alloc y (.cells #[.map (some w.heap.size),.map (some w1.heap.size),.map (some w2.heap.size),.func (.func cf) #[] #[cap],.slice none 0 0,.slice none 0 0,.int .i64 0,.slice none 0 0] 108) none)).run_len underlying103 3;clear hG c2 b4 a8 b9 c4 b7 Y U;generalize b5:gV l=cn at *;have d7:=bJ b5;clear b5
 go_wp2_with (at_make;refine wpList_make_full _ rfl _ _ 47 rfl (y.heap.size+1) 3 i0 (.int .i64 0) 1 underlying47 hi f7 f4 _ _ _ _ cn rfl rfl (by omega) (by omega) ?b2 ?b3 (by simp) ?_)
 case b2=>rw [d8];omega
 case b3=>unfold maxLen;omega
 intro w4 M u;have d6:=u.size;simp only [World.size_alloc] at d6;have x0:=u.cell (a:=⟨y.heap.size,0,none⟩) (v:=.map (some w.heap.size)) (by simp [go_sem]) (by simp);have x1:=u.cell (a:=⟨y.heap.size,1,none⟩) (v:=.map (some w1.heap.size)) (by simp [go_sem]) (by simp);have x2:=u.cell (a:=⟨y.heap.size,2,none⟩) (v:=.map (some w2.heap.size)) (by simp [go_sem]) (by simp);have x3:=u.cell (a:=⟨y.heap.size,3,none⟩) (v:=.func (.func cf) #[] #[cap]) (by simp [go_sem]) (by simp);have x4:=u.cell (a:=⟨y.heap.size,4,none⟩) (v:=.slice none 0 0) (by simp [go_sem]) (by simp);have x5:=u.cell (a:=⟨y.heap.size,5,none⟩) (v:=.slice none 0 0) (by simp [go_sem]) (by simp);have x6:=u.cell (a:=⟨y.heap.size,6,none⟩) (v:=.int .i64 0) (by simp [go_sem]) (by simp);have x7:=u.cell (a:=⟨y.heap.size,7,none⟩) (v:=.slice none 0 0) (by simp [go_sem]) (by simp);have a6:∀ j,w4.frozen? ⟨y.heap.size,j,none⟩=false:=fun j=>(World.frozen?_of_block (u.block y.heap.size (by simp) (by simp))).trans (by simp [go_sem]);have z7:=a6 7;have N:Below y.heap.size y w4:=((Below.refl _ y).alloc (Nat.le_refl _) _).grown u (by simp) (fun k e=>by cases e)
 have L:OwI (y.heap.size+1) w4 (.slice (some ⟨y.heap.size+1,0,none⟩) cn cn) (List.replicate cn 0):=by
  unfold OwI Ow;rw [List.length_replicate];simpa [toList_madeCells_one,Value.cells] using M
 have c7:Pr y.heap.size y (w4.setCell ⟨y.heap.size,7,none⟩ (.slice (some ⟨y.heap.size+1,0,none⟩) cn cn)) (.map (some w.heap.size)) (.map (some w1.heap.size)) (.map (some w2.heap.size)) (.func (.func cf) #[] #[cap]) (.slice none 0 0) (.slice none 0 0) (.slice (some ⟨y.heap.size+1,0,none⟩) cn cn) [] [] 0 (List.replicate cn 0):=
  ⟨N.setCell (p:=⟨y.heap.size,7,none⟩) (Nat.le_refl _) _,by simp [go_sem,x0],by simp [go_sem,x1],by simp [go_sem,x2],by simp [go_sem,x3],by simp [go_sem,x4],by simp [go_sem,x5],by simp [go_sem,x6],by simp [go_sem,x7],fun j=>by simpa using a6 j,
   World.ownsRow_nil _ _ _ _,World.ownsRow_nil _ _ _ _,dP L _ _ (by simp [Value.ownBlock]),(fun g h=>by simp [Value.ownBlock] at h),(fun g h=>by simp [Value.ownBlock] at h),(fun g h=>by simp [Value.ownBlock] at h)⟩
 have f6:=bJ c7;obtain ⟨l',a5⟩:=H.out.last;obtain ⟨tu,yu,E⟩:=A.out.form;have c3:l.length=l'.length+1:=(by rw [a5];simp);rcases HR.out.2 with ⟨_,h0⟩ | ⟨g,cp,i5,f8,i8,b8,h2,j4,d2,d3⟩
 ·omega
 cases f8;have g9:=(Array.getElem?_eq_some_iff.1 b8).1;have m0:=World.ownsRow.cellAt HR.out l'.length (by omega);rw [a5,List.getElem?_append_right (Nat.le_refl _)] at m0;simp only [Nat.sub_self,List.getElem?_cons_zero,E] at m0;have m4:w4.cell? ⟨g,l'.length,none⟩=some (.iface tu yu):=(N.cell (p:=⟨g,l'.length,none⟩) (by have:=S.out.size;simp only;omega)).trans (S.out.cell m0 (by simp));have g8:¬ g=y.heap.size:=(by have:=S.out.size;omega);have i1:=bJ c3;have Z:=bJ E;generalize l.length=ll at *;clear c7 N L M u b8 d2 d3 a5 m0 c6 E X g2 g3 J D a6;subst c3;have g4:IntKind.i64.wrap (l'.length:Int)=(l'.length:Int):=by simp [IntKind.wrap,IntKind.bits,IntKind.signed];omega
 go_wp2_with fail
 go_region_with (go_at_call 94;refine (jS _ y _ _ _ _ _ _ _ _ _ _ _ _ (f6.out.K (dW (World.grownBy.refl _ _))) ⟨.iface tu yu,O,0,0,false,0,false⟩ ⟨_,_,rfl⟩ (by simp)).mono ?_;rintro e w6 ⟨rfl,⟨d9,f3,_⟩,_,_⟩)
 all_goals
  go_wp2;go_ret;exact ⟨y,w.heap.size,w1.heap.size,w2.heap.size,f0,f1,f2,d9,_,rfl,c8.out,a7.out,S.out,by rw [d7.out,Z.out];exact f3⟩
theorem aGY {doc:List Pc} {T:Tr} (y:Doc doc) (j:iQ doc=true) (h:bd doc []=some [T]) (u:Seg doc (cK doc) T 0 doc.length) :
  okN T/\dO T<=4000/\sz T<=140000/\KOk T/\grp doc doc.length=bY T:=by
 obtain ⟨f1,f2,A⟩:=aAB j h;refine ⟨f1,f2,aKp doc j T h,zC A y.bys u,?_⟩;have:=yV u;rw [aHK] at this;omega
theorem aG5 {B:Nat} {wm:World} {l:List Value} {u:Value} {T:Tr} (A:cE B wm l u T 0) (E:okN T) (G:dO T<=4000) (D:sz T<=140000) (y:gV l=bY T) :
  qN B wm l (gV l) [⟨u,T,0,0,false,0,false⟩] [] 0 (List.replicate (gV l) 0):=by
 have h:szS [⟨u,T,0,0,false,0,false⟩]=sz T:=(by simp [szS,szs]);refine ⟨fun t j=>?_,⟨by simp [szS,szs],trivial⟩,by rw [h];exact D,by simp,by rw [h];omega,by rw [h];omega,by rw [h];simp;omega⟩;simp at j;subst j;exact ⟨A,E,by simp,by simpa using G,by simp [y]⟩
theorem zR (v:Value) (doc:List Pc) (width:Int) (w:World) (hv:RdP w.heap.size w v doc) (hd:Doc doc) (hT:Tab w) :
  Calls prog 24 #[v,.int .i64 width] w fun e w'=>aE0 w (jW doc width) e w':=by
 have gA:=World.grownBy_alloc w (.cells #[.int .i64 width] 3) none;have HN:=aB (aD9 v doc (w.alloc (.cells #[.int .i64 width] 3)) ((hv.K gA).wide gA.size) hd (hT.K gA));obtain ⟨a,cap,d5,_⟩:=id hv;subst d5;have b4:=aB gA;have HD:=aB hd;clear hv hT hd gA
 go_enter func24,ntmps24
 go_wp2_with fail
 refine HN.out.mono ?_;intro e w1 hS;obtain ⟨E,c1⟩:=aDi hS;rcases c1 with ⟨X,M,T,u,nv,l,h3,h5,rfl,U,L,J,D,G⟩ | ⟨X,rfl⟩
 ·have b5:w1.cell? ⟨w.heap.size,0,none⟩=some (.int .i64 width):=(E.cell (p:=⟨w.heap.size,0,none⟩) (by simp)).trans (by simp [go_sem]);have G1:=aB (aA b4.out (aC E));obtain ⟨na,d9,b1,g8,h8⟩:=bD L
  have c9:¬ l.length=0:=by
   obtain ⟨l',e⟩:=D.last;rw [e];simp
  have h7:((l.length:Int)==0)=false:=beq_false_of_ne (by omega);obtain ⟨f1,f2,f3,f4,f5⟩:=aGY HD.out X h3 h5;have H:=pD J D
  by_cases hw:0<=width/\width<=65535
  ·have Y:Hid (jW doc width=jZ width none [⟨T,0,0⟩] [] (List.replicate (gV l) 0) 0):=by
    unfold Hid jW;rw [if_pos ⟨X,hw⟩,h3,f5,H]
   have Z:=aB (mH width (sz T) [⟨T,0,0⟩] [⟨T,0,0,false,0,false⟩] [] (List.replicate (gV l) 0) 0 (by simp [trs,szs]) ⟨⟨rfl,rfl,rfl,rfl,rfl⟩,f4,trivial⟩);have b3:=aB (fun cf cp=>aA8 _ nv u T l w1 L J D G f3 (by omega) cf cp);have HF:=aB (And.intro f1 (And.intro f2 f3));have d2:=aB H;have Hl:=aB U;have a4:=aB M;obtain ⟨c8,g6⟩:=hw;subst b1;clear hS L J D G f1 f2 f3 f4 f5 H X h3 h5 E HN U M;have d8:(0:Int)<(l.length:Int):=by omega
   go_wp2_with fail
   refine (b3.out _ _).mono ?_;rintro e w2 ⟨wm,fb,lb,nb,f0,f1,f2,wv,S,rfl,hC,a5,N,hP⟩;have a7:∀ W,wm.grownBy W none->W.cell? ⟨w.heap.size,0,none⟩=some (.int .i64 width):=fun W O=>O.cell (N.cell b5 (by simp)) (by simp)
   have hB:w.heap.size+1<=wm.heap.size:=by
    have:=N.size;have:=World.block_lt_of_cell? w1 _ b5;simp only at this;omega
   have a8:=aB (aHs _ wm.heap.size wm w2 rfl (by simpa using hB) l fb lb nb f0 f1 f2 hC 53 (.pointer (some ⟨w.heap.size,0,none⟩)) wv _ S (gV l) (by have:=aDd l;have:=Hl.out;have:=a4.out;omega)
    (fun args W=>aCH args W) (fun _ y=>decide (y<=width)) (fun j y W _ O=>aCy w.heap.size width j y W (a7 W O)) [⟨u,T,0,0,false,0,false⟩] [] 0 (List.replicate (gV l) 0) hP (aG5 a5 HF.out.1 HF.out.2.1 HF.out.2.2 d2.out))
   have GW:=aB N;clear a7 hP hC a5 b3 N
   go_wp2_with fail
   refine a8.out.mono ?_;rintro e w3 ⟨rfl,g5,a6,f8,A⟩
   have b2:pm (fun _ y=>decide (y<=width)) (szS [⟨u,T,0,0,false,0,false⟩]+1) (List.map Tk.pt [⟨u,T,0,0,false,0,false⟩]) [] 0 (List.replicate (gV l) 0)=pmL (fun _ y=>decide (y<=width)) [⟨T,0,0,false,0,false⟩] [] 0 (List.replicate (gV l) 0):=by
    unfold pmL;rw [<- aMA];rfl
   rw [b2] at A;obtain ⟨R,hR⟩:∃ R,R=pmL (fun _ y=>decide (y<=width)) [⟨T,0,0,false,0,false⟩] [] 0 (List.replicate (gV l) 0):=⟨_,rfl⟩;rw [<- hR] at A Z;have c5:=A.c5;have c7:=A.c7;obtain ⟨ta,f7,d1,_,_⟩:=bD A.trow;obtain ⟨ha,c6,d6,_,_⟩:=bD A.hrow
   have HE:Hid (∀ W,w3.grownBy W none->OwB w.heap.size W a6 R.1/\OwI w.heap.size W S R.2/\(∀ g,a6.ownBlock=some g->S.ownBlock≠some g)/\w.grownBy W none):=
    fun W O=>⟨Ow.later (bH (by omega) A.trow) O,Ow.later (bH (by omega) A.hrow) O,A.dth,aA (aA (aA G1.out GW.out) (aC A.bel)) O⟩
   clear b2 hR A a8;subst d1 d6
   go_wp2_with fail
   go_quiet (fail)
   go_wp2
   go_ret3
   rw [Y.out,Z.out];exact ⟨_,_,rfl,HE.out _ (dT (World.grownBy.refl _ _) _)⟩
  ·have Y:Hid (jW doc width=none):=(by unfold Hid jW;rw [if_neg (fun h=>hw h.2)]);subst b1;clear hS L J D G f1 f2 f3 f4 f5 H X h3 h5 E HN U M
   by_cases c8:width<0
   ·clear hw;go_wp2
    go_ret3
    rw [Y.out];exact ⟨rfl,G1.out⟩
   ·have g3:65535<width:=(by omega);clear hw;go_wp2
    go_ret3
    rw [Y.out];exact ⟨rfl,G1.out⟩
 ·have Y:Hid (jW doc width=none):=(by unfold Hid jW;rw [if_neg (fun h=>by rw [X] at h;cases h.1)]);have G1:=aB (aA b4.out (aC E));clear hS E HN X;go_wp2
  go_ret3
  rw [Y.out];exact ⟨rfl,G1.out⟩
end Go.Proofs.YtgifkcpdihphlaaGreatDoor
namespace Go.Proofs.YtgifkcpdihphlaaGreatDoor
open Tryz
open Go.RowKit
attribute [-go_sem] Builtin.append_
theorem aAv (t:Tre) (width ind m:Int) (G:Bool) (j:G=true->VF t) (ho:aCd t) (nv tv:Value) (w:World) (hv:dG w.heap.size w nv tv t) (hT:Tab w) (hM:w.cell? ⟨1,0,none⟩=some (.int .i64 m))
  (A:∀ W:World,dG W.heap.size W nv tv t->Tab W->W.cell? ⟨1,0,none⟩=some (.int .i64 m)->Calls prog 48 #[.agg #[nv,tv]] W fun e b6=>e=.returned (.bool G)/\W.grownBy b6 none) :
  Calls prog 7 #[.agg #[nv,tv],.int .i64 width,.int .i64 ind] w fun e w'=>∃ v',e=.returned (.tuple #[v',.int .i64 (ftR G width ind t).2])/\OwB w.heap.size w' v' (ftR G width ind t).1/\w.grownBy w' none:=by
 have d2:∀ (x:Bool) (w:World),(Op.unary .not (.bool x)).run prog w=.ok (.bool (!x)) w:=fun _ _=>rfl;obtain ⟨Y,X⟩:=id hv;have b3:Hid (∀ W:World,w.grownBy W none->dG W.heap.size W nv tv t):=fun W g=>⟨(Y.K g).wide g.size,(X.K g).wide g.size⟩
 have HB:Hid (∀ W:World,w.grownBy W none->_):=fun W (g:w.grownBy W none)=>aBk t ind m G (fun h=>by
  have:=j h;exact ⟨⟨this.d.nd,this.d.ok,fun p hp=>(this.d.cn p hp).2,this.d.wt⟩,ho.t.2,this.wt,this.wk⟩) nv tv W (b3.out W g) (hT.K g) (g.cell hM (by simp)) A
 have H1:=aB j;have HT:=aB hT;have HW:Hid (∀ U:World,_):=fun U=>wD width 65535 U;have J:Hid (∀ W:World,OwB w.heap.size W (.slice none 0 0) []):=fun W=>⟨by simp,.inl ⟨rfl,rfl⟩⟩;obtain ⟨na,a8,b9,_⟩:=id Y;obtain ⟨ta,b2,c0,_⟩:=id X;subst b9 c0;clear Y X hv A j hT hM ho b3;have gA:=World.grownBy_alloc w (Obj.cells #[.slice na t.N.length a8,.slice ta t.tail.length b2] 33) none;have GA:=aB gA;clear gA
 by_cases E:0<=width/\width<=65535
 ·have u:decide (0<=width/\width<=65535)=true:=(by simpa using E);have y:=aB E;clear E
  go_enter func7,ntmps7
  go_wp2_with fail
  refine (HW.out _).mono ?_;rintro e w0 ⟨rfl,Z⟩;rw [u];subst Z;clear HW u
  go_wp2_with fail
  refine (HB.out _ GA.out).mono ?_;rintro e w1 ⟨v1,rfl,M,g1⟩;have G1:=aB (aA GA.out g1);clear HB g1
  by_cases D:G=true/\0<=ind/\ind<=16
  ·cases hl:dY (dZ ind t) with
   | true=>
     have a6:bdR G ind t=([],4):=(by unfold bdR;rw [if_pos D,if_pos hl]);have L:=aB (show ftR G width ind t=([],4) by unfold ftR;rw [if_pos ⟨D.1,y.out,D.2⟩,if_pos hl]);rw [a6] at M ⊢;obtain ⟨a1,c1,j,_,_⟩:=M.po.sl;simp only [List.length_nil] at j;subst j;clear M a6 hl D y;go_wp2;go_ret2;exact ⟨.slice none 0 0,by rw [L.out];rfl,by rw [L.out];exact J.out _,G1.out⟩
   | false=>
     have a7:bdR G ind t=(dZ ind t,0):=(by unfold bdR;rw [if_pos D,if_neg (by rw [hl];simp)]);have L:=aB (show ftR G width ind t=(tY width ind t,0) by unfold ftR;rw [if_pos ⟨D.1,y.out,D.2⟩,if_neg (by rw [hl];simp)]);obtain ⟨⟨met,S⟩,O,_⟩:=aFb (H1.out D.1) D.2.1 D.2.2 y.out.1 y.out.2 hl;rw [a7] at M ⊢;have H:=aB (zR v1 (dZ ind t) width w1 M.po.pi.rdP O (HT.out.K G1.out));rw [S] at H;obtain ⟨a1,c1,j,_,_⟩:=M.po.sl;simp only at j;generalize (dZ ind t).length=L1 at j;subst j;clear M a7 hl D y S O H1 HT
     go_wp2_with fail
     refine H.out.mono ?_;rintro e w2 ⟨ov,mv,rfl,o2,o3,_,g2⟩;have G2:=aB (aA G1.out g2);have HO:=aB (bH (B':=w.heap.size) G1.out.size o2);obtain ⟨a2,c2,b0,_,_⟩:=o2.sl;obtain ⟨a3,c3,a5,_,_⟩:=Ow.sl o3;generalize (tY width ind t).length=L2 at b0;generalize met.length=L3 at a5;subst b0 a5;clear o2 o3 g2 H;go_wp2;go_ret2;exact ⟨_,by rw [L.out];rfl,by rw [L.out];exact HO.out,G2.out⟩
  ·have a9:bdR G ind t=([],1):=(by unfold bdR;rw [if_neg D]);have L:=aB (show ftR G width ind t=([],1) by unfold ftR;rw [if_neg (fun h=>D ⟨h.1,h.2.2⟩)]);rw [a9] at M ⊢;obtain ⟨a1,c1,j,_,_⟩:=M.po.sl;simp only [List.length_nil] at j;subst j;clear M a9 D y;go_wp2;go_ret2;exact ⟨.slice none 0 0,by rw [L.out];rfl,by rw [L.out];exact J.out _,G1.out⟩
 ·have u:decide (0<=width/\width<=65535)=false:=(by simpa using E);have L:=aB (show ftR G width ind t=([],1) by unfold ftR;rw [if_neg (fun h=>E h.2.1)]);clear E HB
  go_enter func7,ntmps7
  go_wp2_with fail
  refine (HW.out _).mono ?_;rintro e w0 ⟨rfl,Z⟩;rw [u];subst Z;clear HW u;go_wp2;go_ret2;exact ⟨.slice none 0 0,by rw [L.out];rfl,by rw [L.out];exact J.out _,GA.out⟩
end Go.Proofs.YtgifkcpdihphlaaGreatDoor
namespace Go.Proofs.YtgifkcpdihphlaaGreatDoor
open Tryz
open Go.RowKit
end Go.Proofs.YtgifkcpdihphlaaGreatDoor
