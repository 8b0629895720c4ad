import Derived.Deep.LoopGhost
import Derived.Test.YtmfehflibkokbaaGreatDoorMAS
import Derived.Test.YtmfehflibkokbaaGreatDoorMBR
set_option maxHeartbeats 16000000
set_option maxRecDepth 100000
namespace Go.Proofs.YtmfehflibkokbaaGreatDoor
open Go.Proofs.Tryz
open Go.RowKit
theorem aGo (B pb:Nat) (wm w:World) (g7:pb=wm.heap.size) (hB:B<=pb) (l:List Value) (fb lb nb:Nat) (f0 f1 f2:Value->Option Value) (hC:Ctx B wm l fb lb nb f0 f1 f2) (cf:Nat) (cap wv tv hv:Value) (G:Nat) (hG:G<=1000000) (hE:∀ (args:Array Value) (W:World),(callFunc cf args).run prog W=.ok (.enter cf args) W) (d:Nat->Int->Bool) (d1:∀ (j:Nat) (c0:Int) (W:World),j<G->wm.grownBy W none->Calls prog cf #[.int .i64 (j:Int),.int .i64 c0,cap] W fun e w'=>e=.returned (.bool (d j c0))/\W=w') (its:List Tk) (tx:List Int) (col:Int) (ch:List Int) (h:Pr pb wm w (.map (some fb)) (.map (some lb)) (.map (some nb)) (.func (.func cf) #[] #[cap]) wv tv hv its.reverse tx col ch)
  (hi:pT B wm l G its tx 0 ch) :
  Calls prog 47 #[.pointer (some ⟨pb,0,none⟩)] w fun e w'=>e=.returned (.tuple #[])/\∃ wv' tv' f6,
   Pr pb wm w' (.map (some fb)) (.map (some lb)) (.map (some nb)) (.func (.func cf) #[] #[cap]) wv' tv' hv [] (pm d (szS its+1) (its.map Tk.pt) tx 0 ch).1 f6 (pm d (szS its+1) (its.map Tk.pt) tx 0 ch).2:=by
 obtain ⟨i0,j0,j2,h4,j1⟩:=info_parts mF;have k5:∀ (x:Bool) (w:World),(Op.unary .not (.bool x)).run prog w=.ok (.bool (!x)) w:=fun _ _=>rfl;have HL:=aB (fun (t:Tk) (r:List Tk) (tx:List Int) (col:Int) (ch:List Int) (W:World) (wv tv:Value)=>aJC B pb wm W g7 hB l fb lb nb f0 f1 f2 hC cf cap wv tv hv G hG hE d d1 t r tx col ch);obtain ⟨R,hR⟩:∃ R,R=pm d (szS its+1) (its.map Tk.pt) tx 0 ch:=⟨_,rfl⟩;rw [<- hR];have H0:=aB h;have d6:=aB hi;have HR:=aB hR;clear g7 hB hC hG hE d1 h hi hR
 go_enter func47,ntmps47
 go_wp2
 go_step3
 go_wp2
 go_step3
 go_wp2
 go_loopg [2] (szS its) (fun k v wr=>∃ (its:List Tk) (tx:List Int) (col:Int) (ch:List Int) (wv tv:Value) (i:Int) (f:Nat),v=.int .i64 i/\0<=i/\i<=4000/\
  Pr pb wm wr (.map (some fb)) (.map (some lb)) (.map (some nb)) (.func (.func cf) #[] #[cap]) wv tv hv its.reverse tx col ch/\pT B wm l G its (tx++List.replicate i.toNat 32) i ch/\
  szS its<f/\R=pm d f (its.map Tk.pt) (tx++List.replicate i.toNat 32) i ch/\k=szS its)
 case atStart=>exact ⟨its,tx,col,ch,wv,tv,0,szS its+1,rfl,by omega,by omega,H0.out,by simpa using d6.out,by omega,by simpa using HR.out,rfl⟩
 case round=>
  clear H0 d6 HR;obtain ⟨its,tx,col,ch,wv,tv,i,f,rfl,h0,h8,M,hI,hf,hR,rfl⟩:=hrel;have O:=hI.tl;have HB:=aB (aAJ pb wm wr _ _ _ _ wv tv hv its.reverse tx col ch M i h0 h8 (by rw [List.length_append] at O;omega));have HI:=aB hI;have HR:=aB hR;have Hf:=aB hf;clear M hI hR hf O
  go_wp2_with fail
  refine HB.out.mono ?_;rintro e w1 ⟨rfl,l6,g4⟩;have d5:=aB g4;clear g4 HB;go_wp2
  go_loopg [] (szS its) (fun k wr=>∃ (A:List Tk) (tx:List Int) (col:Int) (ch:List Int) (wv tv:Value) (f:Nat),
   Pr pb wm wr (.map (some fb)) (.map (some lb)) (.map (some nb)) (.func (.func cf) #[] #[cap]) wv tv hv A.reverse tx col ch/\pT B wm l G A tx col ch/\
   szS A<f/\R=pm d f (A.map Tk.pt) tx col ch/\k=szS A/\szS A<=szS its)
  case atStart=>exact ⟨its,_,_,_,_,_,f,d5.out,HI.out,Hf.out,HR.out,rfl,Nat.le_refl _⟩
  case round=>
   clear d5 HI HR Hf;obtain ⟨A,tx,col,ch,wv,tv,f,M,hI,hf,hR,rfl,c3⟩:=hrel;cases A with
   | nil=>
     have i8:=aB (aGH pb wm wr _ _ _ _ wv tv hv tx col ch M);have f7:=M.lt
     have HR:Hid (R=(tx,ch)):=by
      obtain ⟨f',rfl⟩:∃ f',f=f'+1:=⟨f - 1,by omega⟩;exact hR
     clear M hI hR hf c3
     go_wp2_with fail
     refine i8.out.mono ?_;rintro e w2 ⟨rfl,N⟩;have S:=aB (N.K (World.grownBy_alloc w2 (.cells #[.nilIface,.int .i64 0,.bool false,.int .i64 0,.bool false] 154) none));clear N;go_wp2
     try rw [Exit.noGoto_ret]
     go_returns
     exact ⟨rfl,wv,tv,col,by rw [HR.out];exact S.out⟩
   | cons t r=>
     have D:=hI.tok t (by simp);have c6:=aCG r;have b5:=hI.tot;have O:=hI.tl;rw [aW] at b5 O;have c8:=sT t.T;rw [List.reverse_cons] at M;have Z:=aB (aIw pb wm wr _ _ _ _ wv tv hv r.reverse t tx col ch M D.node.iface (by rw [List.length_reverse];omega));have E:=aB (fun W=>aEq B t.v t.T t.ind t.fl t.bw t.be W wm D.node.rep);have j6:=oG t.T D.ok;have U:=aLB (T:=t.T) (fl:=t.fl) D.lo (by have:=D.hi;omega);have c7:=aB (fun W wv tv hp hb=>HL.out t r tx col ch W wv tv hp hI hb);have b3:=aB (hI.line (brk t.T t.ind t.fl).1 U.1 U.2);have g6:=aB c3;obtain ⟨f',rfl⟩:∃ f',f=f'+1:=⟨f - 1,by omega⟩;have Hf:Hid (szS r<f'):=(by rw [aW] at hf;unfold Hid;omega);have HR:=aB hR;have j4:Hid (szS r<szS (t::r)):=(by rw [Hid,aW];omega);have k0:tx.length<=600000000:=(by omega);obtain ⟨tt,u,f8⟩:=D.node.iface;have HF:=aB hf;clear M hI hR hf c3 D b5 O j6 c6 c8;obtain ⟨m0,T,tn,ind,fl,bw,be⟩:=t;simp only at f8 E;subst f8;obtain ⟨bi,a8⟩:∃ bi,bi=(brk T ind fl).1:=⟨_,rfl⟩;cases hb:(brk T ind fl).2
     ·have HN:Hid ((brk T ind fl).2=false):=hb;rw [hb] at E;simp only at U;rw [<- a8] at E U;clear hb b3 a8;unfold mS at E;unfold Tk.val at Z
      go_wp2_with fail
      refine Z.out.mono ?_;rintro e w2 ⟨rfl,c4,N⟩;have gA:=World.grownBy_alloc w2 (.cells #[.iface tt u,.int .i64 ind,.bool fl,.int .i64 bw,.bool be] 154) none;have S:=aB (N.K gA);clear N Z gA
      go_wp2_with fail
      refine (E.out _).mono ?_;rintro e w3 ⟨rfl,g3⟩;have g1:=aB (S.out.K g3);have z0:=g3.cell (a:=⟨w2.heap.size,0,none⟩) (v:=.iface tt u) (by simp [go_sem]) (by simp);have z1:=g3.cell (a:=⟨w2.heap.size,1,none⟩) (v:=.int .i64 ind) (by simp [go_sem]) (by simp);have z2:=g3.cell (a:=⟨w2.heap.size,2,none⟩) (v:=.bool fl) (by simp [go_sem]) (by simp);have z3:=g3.cell (a:=⟨w2.heap.size,3,none⟩) (v:=.int .i64 bw) (by simp [go_sem]) (by simp);have z4:=g3.cell (a:=⟨w2.heap.size,4,none⟩) (v:=.bool be) (by simp [go_sem]) (by simp);have f3:=aB (c7.out w3 c4 tv g1.out HN.out);clear c7 g1 S E g3
      go_wp2_with fail
      refine f3.out.mono ?_;rintro e w4 ⟨rfl,b4,i7,d7,i9,g9,j3,f9,d3,b6,g0⟩;have h7:=aB f9;have h9:=aB d3;have b7:=aB b6;have i2:=aB (g0 f');clear f9 d3 b6 g0 f3;go_wp2
      go_roundg (szS b4)
      case measure=>exact b7.out
      case rel=>
       have h1:=b7.out;have h2:=HF.out;have h3:=g6.out;exact ⟨b4,i7,d7,i9,g9,j3,f',h7.out,h9.out,by omega,HR.out.trans i2.out,rfl,by omega⟩
     ·have HN:Hid ((brk T ind fl).2=true):=hb;rw [hb] at E;simp only at U b3;rw [<- a8] at E U b3
      have i6:Hid (R=pm d f' (r.map Tk.pt) (tx++[10]++List.replicate bi.toNat 32) bi ch):=by
       rw [Hid,HR.out,List.map_cons];cases T with
       | leaf p=>simp only [Tk.pt,pm,HN.out,<- a8,if_true]
       | un p x=>simp [brk] at hb
       | bin p x y=>simp [brk] at hb
      clear hb a8 c7 HR;unfold mS at E;unfold Tk.val at Z;obtain ⟨d8,g2⟩:=U
      go_wp2_with fail
      refine Z.out.mono ?_;rintro e w2 ⟨rfl,c4,N⟩;have gA:=World.grownBy_alloc w2 (.cells #[.iface tt u,.int .i64 ind,.bool fl,.int .i64 bw,.bool be] 154) none;have S:=aB (N.K gA);clear N Z gA
      go_wp2_with fail
      refine (E.out _).mono ?_;rintro e w3 ⟨rfl,g3⟩;have M:=S.out.K g3;have HQ:=aB M;have c5:=M.c5;have f5:=M.fz 5;have f7:=M.lt;have O:=World.ownsRow.lt M.trow;obtain ⟨ta,k1,h5,_,_⟩:=aU M.trow;have Y:w3.grownBy (w3.alloc (.cells #[.int .u8 10] 5)) none:=gWA;have d2:tv.ownBlock≠some pb:=fun e=>by have:=O pb e;omega
      have f4:=aB d2;have c1:w3.ownsRow (pb+1) 5 1 tv tx.length (tx.map (Value.int .u8)):=M.trow;have d0:=aB c1;have j7:=Y.cell c5 (by simp);have i4:(w3.alloc (.cells #[.int .u8 10] 5)).frozen? ⟨pb,5,none⟩=false:=(World.frozen?_of_block (Y.block pb f7 (by simp))).trans f5;have h6:=aB Y;subst h5;clear d2 M c1 Y g3 S E
      go_wp2_with (at_builtin;refine wpList_append_own_at _ rfl _ _ 22 rfl (pb+1) 5 i0 (.int .u8 0) 1 1 underlying22 j0 j2 h4 j1 rfl (by decide) _ _ _ rfl (World.ownsRow.alloc d0.out _) ⟨w3.heap.size,0,none⟩ 1 1 [.int .u8 10] rfl rfl (pD _ _ _) (by intro u hu;simp at hu;subst hu;rfl) (by unfold maxLen;omega) (by omega) (by simp;omega) ?_;intro v1 w4 a4 J _ d9;have x5:=J.cell j7 (fun e=>f4.out e.symm);have y5:w4.frozen? ⟨pb,5,none⟩=false:=(World.frozen?_of_block (J.block pb (by simp;omega) (fun e=>f4.out e.symm))).trans i4;obtain ⟨va,b8,i5,_,_⟩:=aU a4;subst i5)
      go_roundg (szS r)
      case measure=>
       have h1:=j4.out;have h3:=g6.out;omega
      case rel=>
       refine ⟨r,tx++[10],col,ch,c4,.slice va (tx.length+1) b8,bi,f',rfl,d8,g2,?_,b3.out,Hf.out,i6.out,rfl⟩;refine Pr.X (HQ.out.K h6.out) (tv':=.slice va (tx.length+1) b8) J ?_ ?_
       ·unfold OwB Ow;rw [List.map_append,List.length_append];exact a4
       ·rcases d9 with e | e
        ·exact .inl e
        ·exact .inr ⟨_,e,by simp⟩
theorem xA {a:List Int} (J:Bys a) (h:0<=aI a):∃ q,q.all bW=true/\a=aP q/\aI a=q.length:=by
 have D:(eS a).2.1=0:=by
  apply Classical.byContradiction;intro E;rw [aBx E] at h;omega
 have A:=tM J D;have G:aI a=(eS a).1.length:=by unfold aI;rw [if_pos D]
 by_cases y:(eS a).1.all bW=true
 ·rw [oK _ y] at A;exact ⟨_,y,(by simpa using congrArg Prod.fst A.symm),G⟩
 ·rw [aDn _ (by simpa using y)] at A;simp at A
theorem aGI {a b:List Int} (J:Bys a) (S:Bys b) (E:0<=aI a) (M:0<=aI b):aI (a++b)=aI a+aI b:=by
 obtain ⟨q,N,G,A⟩:=xA J E;obtain ⟨r,y,D,O⟩:=xA S M;have h:(q++r).all bW=true:=(by rw [List.all_append,N,y];rfl);have:=aAb h;rw [oK _ h] at this;simp only at this;rw [show aP (q++r)=a++b by rw [G,D];simp [aP]] at this;rw [this,A,O];simp
def KOk:Tr->Prop
 | .leaf p=>(0<=p.k/\p.k<=5)/\(p.k=1->0<=aI p.t/\Bys p.t)
 | .un p x=>(p.k=7\/p.k=8)/\KOk x
 | .bin p x y=>(p.k=6\/p.k=9)/\KOk x/\KOk y
theorem xV {doc:List Pc} {st:List Int} (D:∀ p∈doc,nE p=true) (E:∀ p∈doc,Bys p.t):∀ {T:Tr} {a b:Nat},Seg doc st T a b->KOk T
 | .leaf p,a,b,h=>by
   obtain ⟨_,G,A,_⟩:=h;have N:=List.mem_of_getElem? G;have J:=(fQ p).1 (D p N);refine ⟨⟨J.1.1,?_⟩,fun e=>⟨(J.2.1 e).2,E p N⟩⟩;have:=J.1;unfold ar at A
   repeat' split at A
   all_goals omega
 | .un p x,a,b,h=>by
   obtain ⟨m,_,G,A,_,M⟩:=h;refine ⟨?_,xV D E M⟩;unfold ar at A
   repeat' split at A
   all_goals omega
 | .bin p x y,a,b,h=>by
   obtain ⟨c,m,_,G,A,_,M,O⟩:=h;refine ⟨?_,xV D E M,xV D E O⟩;unfold ar at A
   repeat' split at A
   all_goals omega
theorem kN:∀ (T:Tr) (out:List Int),aM T out=(aM T []).map (out++·)
 | .leaf p,out=>by
   simp only [aM]
   repeat' split
   all_goals simp
 | .un p x,out=>by simp only [aM];exact kN x out
 | .bin p x y,out=>by
   simp only [aM]
   split
   ·rw [kN x out];cases aM x [] with
    | none=>rfl
    | some o=>simp only [Option.map_some,Option.bind_some];rw [kN y (out++o),kN y o];cases aM y []<;>simp
   ·exact kN y out
theorem vU:∀ (T:Tr),KOk T->(∀ A,aM T []=some A->flatW T=aI A/\0<=flatW T/\Bys A)/\(aM T []=none->flatW T = -1)
 | .leaf p,h=>by
   simp only [KOk] at h;simp only [aM,flatW]
   by_cases E:p.k=1
   ·have:=h.2 E;simp only [E];simp;exact ⟨this.1,this.2⟩
   ·by_cases O:p.k=2
    ·simp only [O];simp;refine ⟨by decide,fun z D=>by simp at D;omega⟩
    ·by_cases J:p.k=0\/p.k=3
     ·rw [if_pos J,if_neg E,if_neg O,if_neg (by omega)];refine ⟨fun A e=>?_,by simp⟩;cases e;exact ⟨by decide,by omega,fun z D=>by simp at D⟩
     ·rw [if_neg J,if_neg E,if_neg O,if_neg E,if_neg O,if_pos (by omega)];simp
 | .un p x,h=>by
   simp only [KOk] at h;simp only [aM,flatW];exact vU x h.2
 | .bin p x y,h=>by
   simp only [KOk] at h;have X:=vU x h.2.1;have S:=vU y h.2.2;simp only [aM,flatW]
   by_cases N:p.k=6
   ·rw [if_pos N,if_pos N];cases ex:aM x [] with
    | none=>simp [X.2 ex]
    | some o=>
      have M:=X.1 o ex;simp only [Option.bind_some];rw [kN y o];cases U:aM y [] with
      | none=>simp [S.2 U]
      | some q=>
        have G:=S.1 q U;rw [if_neg (by omega)];refine ⟨fun A e=>?_,by simp⟩;simp at e;subst e;refine ⟨?_,by omega,fun z D=>?_⟩
        ·rw [aGI M.2.2 G.2.2 (by omega) (by omega)];omega
        ·rcases List.mem_append.1 D with D | D
         ·exact M.2.2 z D
         ·exact G.2.2 z D
   ·rw [if_neg N,if_neg N];exact S
def szP (its:List PT):Nat:=szs (its.map (·.T))
theorem dG (t:PT) (r:List PT):szP (t::r)=sz t.T+szP r:=rfl
theorem aLG (its:List Tk):szP (its.map Tk.pt)=szS its:=by unfold szP szS;rw [List.map_map];rfl
theorem vF (d:Nat->Int->Bool):∀ (f A:Nat) (its:List PT) (tx:List Int) (col:Int) (ch:List Int),szP its<f->szP its<A->pm d f its tx col ch=pm d A its tx col ch
 | 0,_,_,_,_,_,h,_=>by omega
 | _+1,0,_,_,_,_,_,h=>by omega
 | f+1,A+1,[],_,_,_,_,_=>rfl
 | f+1,A+1,⟨.leaf p,n,ind,fl,bw,be⟩::r,tx,col,ch,h1,h2=>by
   rw [dG] at h1 h2;simp only [sz] at h1 h2;have D:∀ a b c,pm d f r a b c=pm d A r a b c:=fun a b c=>vF d f A r a b c (by omega) (by omega);simp only [pm,D]
 | f+1,A+1,⟨.un p x,n,ind,fl,bw,be⟩::r,tx,col,ch,h1,h2=>by
   rw [dG] at h1 h2;simp only [sz] at h1 h2;have D:∀ i g e a b c,pm d f (⟨x,n,i,g,bw,e⟩::r) a b c=pm d A (⟨x,n,i,g,bw,e⟩::r) a b c:=fun i g e a b c=>vF d f A _ a b c (by rw [dG];simp only;omega) (by rw [dG];simp only;omega);simp only [pm,D]
 | f+1,A+1,⟨.bin p x y,n,ind,fl,bw,be⟩::r,tx,col,ch,h1,h2=>by
   rw [dG] at h1 h2;simp only [sz] at h1 h2
   have D:∀ E G a b c,pm d f (⟨x,n,ind,fl,E,G⟩::⟨y,n+bV x,ind,fl,bw,be⟩::r) a b c=pm d A (⟨x,n,ind,fl,E,G⟩::⟨y,n+bV x,ind,fl,bw,be⟩::r) a b c:=
    fun E G a b c=>vF d f A _ a b c (by rw [dG,dG];simp only;omega) (by rw [dG,dG];simp only;omega)
   have J:∀ a b c,pm d f (⟨if fl then y else x,if fl then n+bV x else n,ind,fl,bw,be⟩::r) a b c=pm d A (⟨if fl then y else x,if fl then n+bV x else n,ind,fl,bw,be⟩::r) a b c:=
    fun a b c=>vF d f A _ a b c (by rw [dG];cases fl<;>simp<;>omega) (by rw [dG];cases fl<;>simp<;>omega)
   simp only [pm,D,J]
def pmL (d:Nat->Int->Bool) (its:List PT) (tx:List Int) (col:Int) (ch:List Int):List Int × List Int:=pm d (szP its+1) its tx col ch
theorem uL {d:Nat->Int->Bool} {f:Nat} {its:List PT} {tx:List Int} {col:Int} {ch:List Int} (h:szP its<f):pm d f its tx col ch=pmL d its tx col ch:=vF d f _ its tx col ch h (by omega)
section
variable (d:Nat->Int->Bool)
theorem aJQ (tx:List Int) (col:Int) (ch:List Int):pmL d [] tx col ch=(tx,ch):=rfl
theorem aDz (p:Pc) (n:Nat) (ind:Int) (fl:Bool) (y:Int) (A:Bool) (r:List PT) (tx:List Int) (col:Int) (ch:List Int):pmL d (⟨.leaf p,n,ind,fl,y,A⟩::r) tx col ch =
  if (brk (.leaf p) ind fl).2=true then pmL d r (tx++[10]++List.replicate (brk (.leaf p) ind fl).1.toNat 32) (brk (.leaf p) ind fl).1 ch
  else if p.k=1 then pmL d r (tx++p.t) (col+aI p.t) ch
  else if p.k=2 then pmL d r (tx++[32]) (col+1) ch
  else pmL d r tx col ch:=by
 rw [pmL,dG];simp only [pm,sz];have h:∀ a b c,pm d (p.t.length+1+szP r) r a b c=pmL d r a b c:=fun a b c=>uL (by omega);simp only [h]
theorem aHr (p:Pc) (x:Tr) (n:Nat) (ind:Int) (fl:Bool) (y:Int) (A:Bool) (r:List PT) (tx:List Int) (col:Int) (ch:List Int):pmL d (⟨.un p x,n,ind,fl,y,A⟩::r) tx col ch =
  if p.k=7 then pmL d (⟨x,n,ind+p.n,fl,y,A⟩::r) tx col ch
  else pmL d (⟨x,n,ind,fl||pV (flatW x) col y (d (n+bV x)),y,A⟩::r) tx col (ch.set (n+bV x) (if (fl||pV (flatW x) col y (d (n+bV x)))=true then 1 else 2)):=by
 rw [pmL,dG];simp only [pm,sz];have h:∀ i g a b c,pm d (p.t.length+1+sz x+szP r) (⟨x,n,i,g,y,A⟩::r) a b c=pmL d (⟨x,n,i,g,y,A⟩::r) a b c:=fun i g a b c=>uL (by rw [dG];simp only;omega);simp only [h]
theorem aFb (p:Pc) (x y:Tr) (n:Nat) (ind:Int) (fl:Bool) (h:Int) (A:Bool) (r:List PT) (tx:List Int) (col:Int) (ch:List Int):pmL d (⟨.bin p x y,n,ind,fl,h,A⟩::r) tx col ch =
  if p.k=6 then pmL d (⟨x,n,ind,fl,if (leadT y).2=true then (leadT y).1 else (leadT y).1+h,if (leadT y).2=true then (leadT y).2 else A⟩::⟨y,n+bV x,ind,fl,h,A⟩::r) tx col ch
  else pmL d (⟨if fl then y else x,if fl then n+bV x else n,ind,fl,h,A⟩::r) tx col ch:=by
 rw [pmL,dG];simp only [pm,sz]
 have G:∀ D E a b c,pm d (p.t.length+1+(sz x+sz y)+szP r) (⟨x,n,ind,fl,D,E⟩::⟨y,n+bV x,ind,fl,h,A⟩::r) a b c=pmL d (⟨x,n,ind,fl,D,E⟩::⟨y,n+bV x,ind,fl,h,A⟩::r) a b c:=
  fun D E a b c=>uL (by rw [dG,dG];simp only;omega)
 have J:∀ a b c,pm d (p.t.length+1+(sz x+sz y)+szP r) (⟨if fl then y else x,if fl then n+bV x else n,ind,fl,h,A⟩::r) a b c=pmL d (⟨if fl then y else x,if fl then n+bV x else n,ind,fl,h,A⟩::r) a b c:=
  fun a b c=>uL (by rw [dG];cases fl<;>simp<;>omega)
 simp only [G,J]
theorem rA:∀ (T:Tr) (n:Nat) (ind A:Int) (D:Bool) (r:List PT) (tx:List Int) (col:Int) (ch h:List Int),KOk T->aM T []=some h->
  pmL d (⟨T,n,ind,true,A,D⟩::r) tx col ch=pmL d r (tx++h) (col+flatW T) (pO T n ch)
 | .leaf p,n,ind,A,D,r,tx,col,ch,h,hk,ht=>by
   simp only [KOk] at hk;rw [aDz];simp only [aM] at ht
   have Z:(brk (.leaf p) ind true).2=false:=by
    simp only [brk]
    by_cases X:p.k=4\/p.k=5
    ·rw [if_neg (by omega),if_neg (by omega),if_neg (by omega)] at ht;cases ht
    ·by_cases J:p.k=2\/p.k=3
     ·simp [J]
     ·rw [if_neg J,if_neg (by omega),if_neg (by omega)]
   rw [if_neg (by rw [Z];simp)];simp only [flatW,pO]
   by_cases E:p.k=1
   ·rw [if_pos E];simp only [E] at ht ⊢;simp at ht;subst ht;simp
   ·rw [if_neg E]
    by_cases M:p.k=2
    ·rw [if_pos M];simp only [M] at ht ⊢;simp at ht;subst ht;simp
    ·rw [if_neg M,if_neg E,if_neg M]
     by_cases G:p.k=0\/p.k=3
     ·rw [if_pos G] at ht;cases ht;rw [if_neg (by omega)];simp
     ·rw [if_neg G,if_neg E,if_neg M] at ht;cases ht
 | .un p x,n,ind,A,D,r,tx,col,ch,h,hk,ht=>by
   simp only [KOk] at hk;simp only [aM] at ht;rw [aHr];simp only [flatW,pO];rcases hk.1 with Y | U
   ·rw [if_pos Y,if_neg (by omega)];exact rA x n _ A D r tx col ch h hk.2 ht
   ·rw [if_neg (by omega),if_pos U];simp only [Bool.true_or,if_true];exact rA x n _ A D r tx col _ h hk.2 ht
 | .bin p x y,n,ind,A,D,r,tx,col,ch,h,hk,ht=>by
   simp only [KOk] at hk;simp only [aM] at ht;rw [aFb];simp only [flatW,pO];rcases hk.1 with O | h9
   ·rw [if_pos O] at ht;rw [if_pos O,if_pos O,if_pos O];cases ex:aM x [] with
    | none=>rw [ex] at ht;simp at ht
    | some o=>
      rw [ex,Option.bind_some,kN y o] at ht;cases N:aM y [] with
      | none=>rw [N] at ht;simp at ht
      | some q=>
        rw [N] at ht;simp at ht;subst ht;have hx:=(vU x hk.2.1).1 o ex;have hy:=(vU y hk.2.2).1 q N;rw [rA x n ind _ _ _ tx col ch o hk.2.1 ex,rA y (n+bV x) ind A D r _ _ _ q hk.2.2 N,if_neg (by omega)];rw [List.append_assoc,Int.add_assoc]
   ·rw [if_neg (by omega)] at ht;have S:¬ p.k=6:=(by omega);simp only [if_neg S,if_true];exact rA y (n+bV x) ind A D r tx col ch h hk.2.2 ht
end
def Mt:List pK->List PT->Prop
 | [],[]=>True
 | it::its,t::ts=>(t.T=it.T/\t.n=it.n/\t.ind=it.ind/\t.fl=false/\t.bw=jW (its.map (·.T)))/\KOk it.T/\Mt its ts
 | _,_=>False
theorem aHa {p:Pc} {ind:Int} (h:p.k=2\/p.k=3\/p.k=4):brk (.leaf p) ind false=(ind,true):=by
 simp only [brk]
 by_cases y:p.k=2\/p.k=3
 ·rw [if_pos y];rfl
 ·rw [if_neg y,if_pos (by omega)]
theorem aJZ {p:Pc} {ind:Int} (h:p.k=5):brk (.leaf p) ind false=(0,true):=by
 simp only [brk];rw [if_neg (by omega),if_neg (by omega),if_pos h]
theorem aDO {p:Pc} {ind:Int} (h:p.k=0\/p.k=1):brk (.leaf p) ind false=(0,false):=by
 simp only [brk];rw [if_neg (by omega),if_neg (by omega),if_neg (by omega)]
theorem mA (width:Int):∀ (m:Nat) (its:List pK) (ts:List PT) (out met:List Int) (col:Int),szs (trs its)<=m->Mt its ts->
  jR width none its out met col=some (pmL (fun _ A=>decide (A<=width)) ts out col met)
 | m,[],[],out,met,col,_,_=>by rw [aHZ,aJQ]
 | m,⟨.leaf p,n,ind⟩::its,⟨T,n',ind',fl,bw,be⟩::ts,out,met,col,hm,h=>by
   simp only [Mt] at h;obtain ⟨⟨rfl,rfl,rfl,rfl,rfl⟩,D,M⟩:=h;rw [bI] at hm;simp only [szs,sz] at hm;cases m with
   | zero=>omega
   | succ m=>
   have ih:=fun o c=>mA width m its ts o met c (by omega) M;simp only [KOk] at D;rw [aGB,aDz]
   by_cases O:p.k=1
   ·rw [if_pos O,aDO (.inr O),if_neg (by simp),if_pos O,ih]
   ·rw [if_neg O]
    by_cases S:p.k=5
    ·rw [if_pos S,aJZ S,if_pos rfl,ih];simp
    ·rw [if_neg S]
     by_cases E:p.k=2\/p.k=3\/p.k=4
     ·rw [if_pos E,aHa E,if_pos rfl,ih];simp [bR]
     ·rw [if_neg E,aDO (.inl (by omega)),if_neg (by simp),if_neg O,if_neg (by omega),ih]
 | m,⟨.un p x,n,ind⟩::its,⟨T,n',ind',fl,bw,be⟩::ts,out,met,col,hm,h=>by
   simp only [Mt] at h;obtain ⟨⟨rfl,rfl,rfl,rfl,rfl⟩,D,M⟩:=h;rw [bI] at hm;simp only [szs,sz] at hm;cases m with
   | zero=>omega
   | succ m=>
   simp only [KOk] at D;have J:=fun i o X c=>mA width m (⟨x,n',i⟩::its) (⟨x,n',i,false,jW (its.map (·.T)),be⟩::ts) o X c (by rw [bI];simp only [szs];omega) ⟨⟨rfl,rfl,rfl,rfl,rfl⟩,D.2,M⟩;have Y:=fun o X c=>mA width m its ts o X c (by omega) M;have N:=vU x D.2;rw [aKi,aHr];rcases D.1 with Z | h8
   ·rw [if_pos Z,if_pos Z];exact J _ _ _ _
   ·rw [if_neg (by omega),if_neg (by omega)];simp only [Bool.false_or];cases ex:aM x [] with
    | none=>
      have U:pV (flatW x) col (jW (its.map (·.T))) (fun A=>decide (A<=width))=false:=(by unfold pV;rw [if_pos (N.2 ex)]);rw [U];simp only [Bool.false_eq_true,if_false];exact J _ _ _ _
    | some text=>
      have hw:=N.1 text ex
      have U:pV (flatW x) col (jW (its.map (·.T))) (fun A=>decide (A<=width))=decide (col+aI text+jW (its.map (·.T))<=width):=by
       unfold pV;rw [if_neg (by omega),hw.1]
      rw [U]
      by_cases G:col+aI text+jW (its.map (·.T))<=width
      ·simp only [if_pos G,decide_eq_true G,if_true];rw [rA _ x _ _ _ _ _ _ _ _ text D.2 ex,Y];simp only [pO,if_pos h8,hw.1]
      ·simp only [if_neg G,decide_eq_false G,Bool.false_eq_true,if_false];exact J _ _ _ _
 | m,⟨.bin p x y,n,ind⟩::its,⟨T,n',ind',fl,bw,be⟩::ts,out,met,col,hm,h=>by
   simp only [Mt] at h;obtain ⟨⟨rfl,rfl,rfl,rfl,rfl⟩,D,M⟩:=h;rw [bI] at hm;simp only [szs,sz] at hm;cases m with
   | zero=>omega
   | succ m=>
   simp only [KOk] at D;rw [aIp,aFb];rcases D.1 with h6 | h9
   ·rw [if_pos h6,if_pos h6];refine mA width m _ _ _ _ _ (by rw [bI,bI];simp only [szs];omega) ⟨⟨rfl,rfl,rfl,rfl,?_⟩,D.2.1,⟨rfl,rfl,rfl,rfl,rfl⟩,D.2.2,M⟩;simp only [List.map_cons,jW]
   ·rw [if_neg (by omega),if_neg (by omega)];simp only [Bool.false_eq_true,if_false];exact mA width m _ _ _ _ _ (by rw [bI];simp only [szs];omega) ⟨⟨rfl,rfl,rfl,rfl,rfl⟩,D.2.1,M⟩
 | _,[],_::_,_,_,_,_,h=>h.elim
 | _,_::_,[],_,_,_,_,h=>by cases h
theorem tH.later {B:Nat} {w wm:World} {l:List Value} {f:Value->Option Value} {F:Tr->Value} (N:∀ T A,Sim T A->F T=F A) {u:Value} {T:Tr} (E:Rep (fun _=>False) B w u T) (G:cS w u T l) (h:tH B w l f F) (M:w.grownBy wm none):tH B wm l f F:=by
 intro v hv J D;obtain ⟨i,O⟩:=List.mem_iff_getElem?.1 hv;obtain ⟨A,_,y,_⟩:=kD E G i v O;rw [h v hv A y,N A J (uI (y.K M) D)]
theorem yV (B:Nat) (nv u0:Value) (X:Tr) (l:List Value) (w:World) (J:w.ownsRow B 62 1 nv l.length l) (hr:Rep (fun _=>False) B w u0 X) (hp:cS w u0 X l) (ho:lF (fun _=>False) w l) (d1:sz X<=140000) (hl:l.length<=40000) (cf:Nat) (cap:Value) :
  Calls prog 45 #[nv,.func (.func cf) #[] #[cap]] w fun e w'=>∃ wm fb lb nb f0 f1 f2 wv hv,e=.returned (.pointer (some ⟨wm.heap.size,0,none⟩))/\Ctx B wm l fb lb nb f0 f1 f2/\cA B wm l u0 X 0/\w.grownBy wm none/\
   Pr wm.heap.size wm w' (.map (some fb)) (.map (some lb)) (.map (some nb)) (.func (.func cf) #[] #[cap]) wv (.slice none 0 0) hv [⟨u0,X,0,0,false,0,false⟩] [] 0 (List.replicate (gO l) 0):=by
 have hW:=zM B nv u0 X l w J hr hp ho d1;obtain ⟨a,h6,d7,i8,i6⟩:=aU J;have HR:=bH J;have D:=bH hr;have M:=bH hp;have a7:=bH ho;subst d7;clear J hr hp ho
 go_enter func45,ntmps45
 go_wp2_with fail
 refine hW.mono ?_;rintro e w1 ⟨f0,n0,rfl,c4,c8,g1⟩;have Z:∀ {W W':World},W.grownBy W' none->∀ b,b<W.heap.size->¬ False->W'.heap[b]?=W.heap[b]?:=fun h b hb _=>h.block b hb (by simp);have hL:=aDr B _ u0 X l w1 (fM HR.out g1 (by simp)) (D.out.K g1) (M.out.K D.out g1) (a7.out.turn (Z g1) (fun _ _ h=>h)) d1;clear hW
 go_wp2_with fail
 refine hL.mono ?_;rintro e w2 ⟨f1,n1,rfl,b8,c1,g2⟩;have N:=aA g1 g2;have hG:=wP B _ u0 X l w2 (fM HR.out N (by simp)) (D.out.K N) (M.out.K D.out N) (a7.out.turn (Z N) (fun _ _ h=>h));clear hL
 go_wp2_with fail
 refine hG.mono ?_;rintro e A ⟨f2,rfl,b1,d0,g3⟩;have E:=aA N g3
 have a5:Ctx B A l w.heap.size w1.heap.size w2.heap.size f0 f1 f2:=
  ⟨a7.out.turn (Z E) (fun _ _ h=>h),⟨n0,c4.K (aA g2 g3)⟩,⟨n1,b8.K g3⟩,b1,tH.later aFm D.out M.out c8 E,tH.later aFA (D.out.K g1) (M.out.K D.out g1) c1 (aA g2 g3),d0⟩
 have c2:=bH a5;have a8:Hid (cA B A l u0 X 0):=⟨[],l,[],by simp,M.out.K D.out E,D.out.K E,rfl⟩;have Y:=bH E;obtain ⟨i0,hi,g4,d5,g0⟩:=info_parts aBg;have j5:=aCB l;have c5:=(b1.K (World.grownBy_alloc A (.cells #[.map (some w.heap.size),.map (some w1.heap.size),.map (some w2.heap.size),.func (.func cf) #[] #[cap],.slice none 0 0,.slice none 0 0,.int .i64 0,.slice none 0 0] 107) none)).run_len underlying102 3;clear hG c4 b8 b1 c8 c1 d0 a5 Z;generalize c0:gO l=cn at *;have f5:=bH c0;clear c0
 go_wp2_with (at_make;refine wpList_make_full _ rfl _ _ 33 rfl (A.heap.size+1) 3 i0 (.int .i64 0) 1 underlying33 hi g4 d5 _ _ _ _ cn rfl rfl (by omega) (by omega) ?b2 ?b3 (by simp) ?_)
 case b2=>rw [g0];omega
 case b3=>unfold maxLen;omega
 intro w4 S y;have f6:=y.size;simp only [World.size_alloc] at f6;have x0:=y.cell (a:=⟨A.heap.size,0,none⟩) (v:=.map (some w.heap.size)) (by simp [go_sem]) (by simp);have x1:=y.cell (a:=⟨A.heap.size,1,none⟩) (v:=.map (some w1.heap.size)) (by simp [go_sem]) (by simp);have x2:=y.cell (a:=⟨A.heap.size,2,none⟩) (v:=.map (some w2.heap.size)) (by simp [go_sem]) (by simp);have x3:=y.cell (a:=⟨A.heap.size,3,none⟩) (v:=.func (.func cf) #[] #[cap]) (by simp [go_sem]) (by simp);have x4:=y.cell (a:=⟨A.heap.size,4,none⟩) (v:=.slice none 0 0) (by simp [go_sem]) (by simp);have x5:=y.cell (a:=⟨A.heap.size,5,none⟩) (v:=.slice none 0 0) (by simp [go_sem]) (by simp);have x6:=y.cell (a:=⟨A.heap.size,6,none⟩) (v:=.int .i64 0) (by simp [go_sem]) (by simp);have x7:=y.cell (a:=⟨A.heap.size,7,none⟩) (v:=.slice none 0 0) (by simp [go_sem]) (by simp);have b0:∀ j,w4.frozen? ⟨A.heap.size,j,none⟩=false:=fun j=>(World.frozen?_of_block (y.block A.heap.size (by simp) (by simp))).trans (by simp [go_sem]);have z7:=b0 7;have U:Below A.heap.size A w4:=((Below.refl _ A).alloc (Nat.le_refl _) _).grown y (by simp) (fun k e=>by cases e)
 have O:OwI (A.heap.size+1) w4 (.slice (some ⟨A.heap.size+1,0,none⟩) cn cn) (List.replicate cn 0):=by
  unfold OwI Ow;rw [List.length_replicate];simpa [toList_madeCells_one,Value.cells] using S
 have c3:Pr A.heap.size A (w4.setCell ⟨A.heap.size,7,none⟩ (.slice (some ⟨A.heap.size+1,0,none⟩) cn cn)) (.map (some w.heap.size)) (.map (some w1.heap.size)) (.map (some w2.heap.size)) (.func (.func cf) #[] #[cap]) (.slice none 0 0) (.slice none 0 0) (.slice (some ⟨A.heap.size+1,0,none⟩) cn cn) [] [] 0 (List.replicate cn 0):=
  ⟨U.setCell (p:=⟨A.heap.size,7,none⟩) (Nat.le_refl _) _,by simp [go_sem,x0],by simp [go_sem,x1],by simp [go_sem,x2],by simp [go_sem,x3],by simp [go_sem,x4],by simp [go_sem,x5],by simp [go_sem,x6],by simp [go_sem,x7],fun j=>by simpa using b0 j,
   World.ownsRow_nil _ _ _ _,World.ownsRow_nil _ _ _ _,cP O _ _ (by simp [Value.ownBlock]),(fun g h=>by simp [Value.ownBlock] at h),(fun g h=>by simp [Value.ownBlock] at h),(fun g h=>by simp [Value.ownBlock] at h)⟩
 have f8:=bH c3;obtain ⟨l',a9⟩:=M.out.last;obtain ⟨tu,yu,G⟩:=D.out.form;have b7:l.length=l'.length+1:=(by rw [a9];simp);rcases HR.out.2 with ⟨_,h0⟩ | ⟨g,cp,i5,d6,i3,c6,g7,i4,f4,d8⟩
 ·omega
 cases d6;have h1:=(Array.getElem?_eq_some_iff.1 c6).1;have m0:=World.ownsRow.cellAt HR.out l'.length (by omega);rw [a9,List.getElem?_append_right (Nat.le_refl _)] at m0;simp only [Nat.sub_self,List.getElem?_cons_zero,G] at m0;have m4:w4.cell? ⟨g,l'.length,none⟩=some (.iface tu yu):=(U.cell (p:=⟨g,l'.length,none⟩) (by have:=Y.out.size;simp only;omega)).trans (Y.out.cell m0 (by simp));have g8:¬ g=A.heap.size:=(by have:=Y.out.size;omega);have i1:=bH b7;have a6:=bH G;generalize l.length=ll at *;clear c3 U O S y c6 f4 d8 a9 m0 c5 G g1 g2 g3 N E b0;subst b7;have g9:IntKind.i64.wrap (l'.length:Int)=(l'.length:Int):=by simp [IntKind.wrap,IntKind.bits,IntKind.signed];omega
 go_wp2_with fail
 go_region_with (go_at_call 83;refine (jI _ A _ _ _ _ _ _ _ _ _ _ _ _ (f8.out.K (dR (World.grownBy.refl _ _))) ⟨.iface tu yu,X,0,0,false,0,false⟩ ⟨_,_,rfl⟩ (by simp)).mono ?_;rintro e w6 ⟨rfl,⟨f3,f7,_⟩,_,_⟩)
 all_goals
  go_wp2;go_ret;exact ⟨A,w.heap.size,w1.heap.size,w2.heap.size,f0,f1,f2,f3,_,rfl,c2.out,a8.out,Y.out,by rw [f5.out,a6.out];exact f7⟩
theorem aF5 {doc:List Pc} {T:Tr} (E:Doc doc) (A:eX doc=true) (y:bd doc []=some [T]) (h:Seg doc (gZ doc) T 0 doc.length) :
  okN T/\dK T<=4000/\sz T<=140000/\KOk T/\grp doc doc.length=bV T:=by
 obtain ⟨f1,f2,D⟩:=zG A y;refine ⟨f1,f2,aCc doc A T y,xV D E.bys h,?_⟩;have:=xW h;rw [aId] at this;omega
theorem aGa {B:Nat} {wm:World} {l:List Value} {u:Value} {T:Tr} (G:cA B wm l u T 0) (E:okN T) (J:dK T<=4000) (A:sz T<=140000) (D:gO l=bV T) :
  pT B wm l (gO l) [⟨u,T,0,0,false,0,false⟩] [] 0 (List.replicate (gO l) 0):=by
 have h:szS [⟨u,T,0,0,false,0,false⟩]=sz T:=(by simp [szS,szs]);refine ⟨fun t y=>?_,⟨by simp [szS,szs],trivial⟩,by rw [h];exact A,by simp,by rw [h];omega,by rw [h];omega,by rw [h];simp;omega⟩;simp at y;subst y;exact ⟨G,E,by simp,by simpa using J,by simp [D]⟩
theorem aAf (v:Value) (doc:List Pc) (width:Int) (w:World) (hv:RdP w.heap.size w v doc) (hd:Doc doc) (hT:Tab w) :
  Calls prog 21 #[v,.int .i64 width] w fun e w'=>aEw w (jQ doc width) e w':=by
 have gA:=World.grownBy_alloc w (.cells #[.int .i64 width] 3) none;have HN:=aB (wV v doc (w.alloc (.cells #[.int .i64 width] 3)) ((hv.K gA).wide gA.size) hd (hT.K gA));obtain ⟨a,cap,d4,_⟩:=id hv;subst d4;have b8:=aB gA;have HD:=aB hd;clear hv hT hd gA
 go_enter func21,ntmps21
 go_wp2_with fail
 refine HN.out.mono ?_;intro e w1 hS;obtain ⟨E,d6⟩:=aCx hS;rcases d6 with ⟨X,O,T,u,nv,l,h3,h5,rfl,U,N,J,D,G⟩ | ⟨X,rfl⟩
 ·have a8:w1.cell? ⟨w.heap.size,0,none⟩=some (.int .i64 width):=(E.cell (p:=⟨w.heap.size,0,none⟩) (by simp)).trans (by simp [go_sem]);have G1:=aB (aA b8.out (aC E));obtain ⟨na,f8,a7,h6,h0⟩:=aU N
  have d0:¬ l.length=0:=by
   obtain ⟨l',e⟩:=D.last;rw [e];simp
  have g9:((l.length:Int)==0)=false:=beq_false_of_ne (by omega);obtain ⟨f1,f2,f3,f4,f5⟩:=aF5 HD.out X h3 h5;have M:=nV J D
  by_cases hw:0<=width/\width<=65535
  ·have HR:Hid (jQ doc width=jR width none [⟨T,0,0⟩] [] (List.replicate (gO l) 0) 0):=by
    unfold Hid jQ;rw [if_pos ⟨X,hw⟩,h3,f5,M]
   have b4:=aB (mA width (sz T) [⟨T,0,0⟩] [⟨T,0,0,false,0,false⟩] [] (List.replicate (gO l) 0) 0 (by simp [trs,szs]) ⟨⟨rfl,rfl,rfl,rfl,rfl⟩,f4,trivial⟩);have b1:=aB (fun cf cp=>yV _ nv u T l w1 N J D G f3 (by omega) cf cp);have HF:=aB (And.intro f1 (And.intro f2 f3));have c6:=aB M;have Hl:=aB U;have a9:=aB O;obtain ⟨d7,g4⟩:=hw;subst a7;clear hS N J D G f1 f2 f3 f4 f5 M X h3 h5 E HN U O;have g2:(0:Int)<(l.length:Int):=by omega
   go_wp2_with fail
   refine (b1.out _ _).mono ?_;rintro e w2 ⟨wm,fb,lb,nb,f0,f1,f2,wv,Y,rfl,hC,b0,S,hP⟩;have b5:∀ W,wm.grownBy W none->W.cell? ⟨w.heap.size,0,none⟩=some (.int .i64 width):=fun W Z=>Z.cell (S.cell a8 (by simp)) (by simp)
   have hB:w.heap.size+1<=wm.heap.size:=by
    have:=S.size;have:=World.block_lt_of_cell? w1 _ a8;simp only at this;omega
   have b2:=aB (aGo _ wm.heap.size wm w2 rfl (by simpa using hB) l fb lb nb f0 f1 f2 hC 46 (.pointer (some ⟨w.heap.size,0,none⟩)) wv _ Y (gO l) (by have:=aCB l;have:=Hl.out;have:=a9.out;omega)
    (fun args W=>aBO args W) (fun _ y=>decide (y<=width)) (fun j y W _ Z=>aCr w.heap.size width j y W (b5 W Z)) [⟨u,T,0,0,false,0,false⟩] [] 0 (List.replicate (gO l) 0) hP (aGa b0 HF.out.1 HF.out.2.1 HF.out.2.2 c6.out))
   have GW:=aB S;clear b5 hP hC b0 b1 S
   go_wp2_with fail
   refine b2.out.mono ?_;rintro e w3 ⟨rfl,g3,a6,g1,A⟩
   have b6:pm (fun _ y=>decide (y<=width)) (szS [⟨u,T,0,0,false,0,false⟩]+1) (List.map Tk.pt [⟨u,T,0,0,false,0,false⟩]) [] 0 (List.replicate (gO l) 0)=pmL (fun _ y=>decide (y<=width)) [⟨T,0,0,false,0,false⟩] [] 0 (List.replicate (gO l) 0):=by
    unfold pmL;rw [<- aLG];rfl
   rw [b6] at A;obtain ⟨R,hR⟩:∃ R,R=pmL (fun _ y=>decide (y<=width)) [⟨T,0,0,false,0,false⟩] [] 0 (List.replicate (gO l) 0):=⟨_,rfl⟩;rw [<- hR] at A b4;have c5:=A.c5;have c7:=A.c7;obtain ⟨ta,f6,c4,_,_⟩:=aU A.trow;obtain ⟨ha,c8,d2,_,_⟩:=aU A.hrow
   have HE:Hid (∀ W,w3.grownBy W none->OwB w.heap.size W a6 R.1/\OwI w.heap.size W Y R.2/\(∀ g,a6.ownBlock=some g->Y.ownBlock≠some g)/\w.grownBy W none):=
    fun W Z=>⟨Ow.later (dP (by omega) A.trow) Z,Ow.later (dP (by omega) A.hrow) Z,A.dth,aA (aA (aA G1.out GW.out) (aC A.bel)) Z⟩
   clear b6 hR A b2;subst c4 d2
   go_wp2_with fail
   go_quiet (fail)
   go_wp2
   go_ret3
   rw [HR.out,b4.out];exact ⟨_,_,rfl,HE.out _ (cO (World.grownBy.refl _ _) _)⟩
  ·have HR:Hid (jQ doc width=none):=(by unfold Hid jQ;rw [if_neg (fun h=>hw h.2)]);subst a7;clear hS N J D G f1 f2 f3 f4 f5 M X h3 h5 E HN U O
   by_cases d7:width<0
   ·clear hw;go_wp2
    go_ret3
    rw [HR.out];exact ⟨rfl,G1.out⟩
   ·have g7:65535<width:=(by omega);clear hw;go_wp2
    go_ret3
    rw [HR.out];exact ⟨rfl,G1.out⟩
 ·have HR:Hid (jQ doc width=none):=(by unfold Hid jQ;rw [if_neg (fun h=>by rw [X] at h;cases h.1)]);have G1:=aB (aA b8.out (aC E));clear hS E HN X;go_wp2
  go_ret3
  rw [HR.out];exact ⟨rfl,G1.out⟩
end Go.Proofs.YtmfehflibkokbaaGreatDoor
namespace Go.Proofs.YtmfehflibkokbaaGreatDoor
open Go.Proofs.Tryz
open Go.RowKit
attribute [-go_sem] Builtin.append_
theorem yY (t:Tre) (width ind m:Int) (J:Bool) (y:J=true->VF t) (ho:aA6 t) (nv tv:Value) (w:World) (hv:eF w.heap.size w nv tv t) (hT:Tab w) (hM:w.cell? ⟨1,0,none⟩=some (.int .i64 m))
  (G:∀ W:World,eF W.heap.size W nv tv t->Tab W->W.cell? ⟨1,0,none⟩=some (.int .i64 m)->Calls prog 22 #[.agg #[nv,tv]] W fun e c7=>e=.returned (.bool J)/\W.grownBy c7 none) :
  Calls prog 7 #[.agg #[nv,tv],.int .i64 width,.int .i64 ind] w fun e w'=>∃ v',e=.returned (.tuple #[v',.int .i64 (ftR J width ind t).2])/\OwB w.heap.size w' v' (ftR J width ind t).1/\w.grownBy w' none:=by
 have d2:∀ (x:Bool) (w:World),(Op.unary .not (.bool x)).run prog w=.ok (.bool (!x)) w:=fun _ _=>rfl;obtain ⟨a8,a5⟩:=id hv;have b2:Hid (∀ W:World,w.grownBy W none->eF W.heap.size W nv tv t):=fun W g=>⟨(a8.K g).wide g.size,(a5.K g).wide g.size⟩
 have HB:Hid (∀ W:World,w.grownBy W none->_):=fun W (g:w.grownBy W none)=>sB t ind m J (fun h=>by
  have:=y h;exact ⟨⟨this.d.nd,this.d.ok,fun p hp=>(this.d.cn p hp).2,this.d.wt⟩,ho.t.2,this.wt,this.wk⟩) nv tv W (b2.out W g) (hT.K g) (g.cell hM (by simp)) G
 have H1:=aB y;have HT:=aB hT;have HW:Hid (∀ U:World,_):=fun U=>uM width 65535 U;have O:Hid (∀ W:World,OwB w.heap.size W (.slice none 0 0) []):=fun W=>⟨by simp,.inl ⟨rfl,rfl⟩⟩;obtain ⟨na,b4,b8,_⟩:=id a8;obtain ⟨ta,b0,c4,_⟩:=id a5;subst b8 c4;clear a8 a5 hv G y hT hM ho b2;have gA:=World.grownBy_alloc w (Obj.cells #[.slice na t.N.length b4,.slice ta t.tail.length b0] 26) none;have GA:=aB gA;clear gA
 by_cases M:0<=width/\width<=65535
 ·have A:decide (0<=width/\width<=65535)=true:=(by simpa using M);have D:=aB M;clear M
  go_enter func7,ntmps7
  go_wp2_with fail
  refine (HW.out _).mono ?_;rintro e w0 ⟨rfl,a7⟩;rw [A];subst a7;clear HW A
  go_wp2_with fail
  refine (HB.out _ GA.out).mono ?_;rintro e w1 ⟨v1,rfl,Y,g1⟩;have G1:=aB (aA GA.out g1);clear HB g1
  by_cases E:J=true/\0<=ind/\ind<=16
  ·cases hl:dU (dT ind t) with
   | true=>
     have b6:bdR J ind t=([],4):=(by unfold bdR;rw [if_pos E,if_pos hl]);have S:=aB (show ftR J width ind t=([],4) by unfold ftR;rw [if_pos ⟨E.1,D.out,E.2⟩,if_pos hl]);rw [b6] at Y ⊢;obtain ⟨a1,c1,y,_,_⟩:=Y.po.sl;simp only [List.length_nil] at y;subst y;clear Y b6 hl E D;go_wp2;go_ret2;exact ⟨.slice none 0 0,by rw [S.out];rfl,by rw [S.out];exact O.out _,G1.out⟩
   | false=>
     have a9:bdR J ind t=(dT ind t,0):=(by unfold bdR;rw [if_pos E,if_neg (by rw [hl];simp)]);have S:=aB (show ftR J width ind t=(qU width ind t,0) by unfold ftR;rw [if_pos ⟨E.1,D.out,E.2⟩,if_neg (by rw [hl];simp)]);obtain ⟨⟨met,a4⟩,Z,_⟩:=aEC (H1.out E.1) E.2.1 E.2.2 D.out.1 D.out.2 hl;rw [a9] at Y ⊢;have X:=aB (aAf v1 (dT ind t) width w1 Y.po.pi.rdP Z (HT.out.K G1.out));rw [a4] at X;obtain ⟨a1,c1,y,_,_⟩:=Y.po.sl;simp only at y;generalize (dT ind t).length=L1 at y;subst y;clear Y a9 hl E D a4 Z H1 HT
     go_wp2_with fail
     refine X.out.mono ?_;rintro e w2 ⟨ov,mv,rfl,o2,o3,_,g2⟩;have G2:=aB (aA G1.out g2);have HO:=aB (dP (B':=w.heap.size) G1.out.size o2);obtain ⟨a2,c2,b7,_,_⟩:=o2.sl;obtain ⟨a3,c3,b3,_,_⟩:=Ow.sl o3;generalize (qU width ind t).length=L2 at b7;generalize met.length=L3 at b3;subst b7 b3;clear o2 o3 g2 X;go_wp2;go_ret2;exact ⟨_,by rw [S.out];rfl,by rw [S.out];exact HO.out,G2.out⟩
  ·have b5:bdR J ind t=([],1):=(by unfold bdR;rw [if_neg E]);have S:=aB (show ftR J width ind t=([],1) by unfold ftR;rw [if_neg (fun h=>E ⟨h.1,h.2.2⟩)]);rw [b5] at Y ⊢;obtain ⟨a1,c1,y,_,_⟩:=Y.po.sl;simp only [List.length_nil] at y;subst y;clear Y b5 E D;go_wp2;go_ret2;exact ⟨.slice none 0 0,by rw [S.out];rfl,by rw [S.out];exact O.out _,G1.out⟩
 ·have A:decide (0<=width/\width<=65535)=false:=(by simpa using M);have S:=aB (show ftR J width ind t=([],1) by unfold ftR;rw [if_neg (fun h=>M h.2.1)]);clear M HB
  go_enter func7,ntmps7
  go_wp2_with fail
  refine (HW.out _).mono ?_;rintro e w0 ⟨rfl,a7⟩;rw [A];subst a7;clear HW A;go_wp2;go_ret2;exact ⟨.slice none 0 0,by rw [S.out];rfl,by rw [S.out];exact O.out _,GA.out⟩
end Go.Proofs.YtmfehflibkokbaaGreatDoor
namespace Go.Proofs.YtmfehflibkokbaaGreatDoor
open Go.Proofs.Tryz
open Go.RowKit Go.Shelf
attribute [local go_sem] Oper.semAt_some
theorem Rep.base {X:Nat->Prop} {B B':Nat} {w:World} (J:B<=B'):∀ {T:Tr} {v:Value},Rep X B w v T->Rep X B' w v T
 | .leaf p,v,h=>by
   simp only [Rep] at h ⊢;rcases h with h | h | h | h | h | ⟨U,b,tv,Y,E,A,D,G,Z⟩
   ·exact .inl h
   ·exact .inr (.inl h)
   ·exact .inr (.inr (.inl h))
   ·exact .inr (.inr (.inr (.inl h)))
   ·exact .inr (.inr (.inr (.inr (.inl h))))
   ·exact .inr (.inr (.inr (.inr (.inr ⟨U,b,tv,Y,E,A,D,Rd.wide G J,Z⟩))))
 | .un p x,v,h=>by
   simp only [Rep] at h ⊢;obtain ⟨b,u,E,A,D,N,G⟩:=h;exact ⟨b,u,E,A,D,N.base J,G⟩
 | .bin p x y,v,h=>by
   simp only [Rep] at h ⊢;obtain ⟨b,u,S,E,A,D,O,N,M,G⟩:=h;exact ⟨b,u,S,E,A,D,O,N.base J,M.base J,G⟩
theorem KpX.refl (n₀ tb:Nat) (W:World):KpX n₀ tb W W:=⟨Below.refl _ _,fun _ _ h _ _=>h,fun _ h=>.inl h⟩
theorem aG8 (n:Nat) (t:TypeId) (u:Value) (fl:Bool) (w:World) :
  CallsIn Fence.wide n prog 26 #[.iface t u,.bool fl] w fun e w'=>e=.returned (.func (.func 59) #[] #[.pointer (some ⟨w.heap.size,0,none⟩),.pointer (some ⟨w.heap.size+1,0,none⟩)])/\(w.alloc (.cells #[.iface t u] 62)).alloc (.cells #[.bool fl] 4)=w':=by
 refine callsIn_of_wp func26 rfl trivial ?_ rfl;simp only [ntmps26,List.size_toArray,List.length_cons,List.length_nil,Nat.reduceAdd,Nat.reduceSub,Array.replicate_succ,Array.replicate_zero,List.push_toArray,List.append_toArray,List.nil_append,List.cons_append]
 gi_wp2
 go_ret;exact ⟨rfl,rfl⟩
end Go.Proofs.YtmfehflibkokbaaGreatDoor
