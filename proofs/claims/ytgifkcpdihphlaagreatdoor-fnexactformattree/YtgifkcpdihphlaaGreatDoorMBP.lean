import Derived.Test.YtgifkcpdihphlaaGreatDoorMBD
import Derived.Test.YtgifkcpdihphlaaGreatDoorMBE
import Derived.Test.YtgifkcpdihphlaaGreatDoorMBF
import Derived.Test.YtgifkcpdihphlaaGreatDoorMBO
set_option maxHeartbeats 16000000
set_option maxRecDepth 100000
namespace Go.Proofs.YtgifkcpdihphlaaGreatDoor
open Tryz
open Go.RowKit
theorem aCX {n:Nat} {l:Int} (h:¬ szB n l<0):szB n l=l - n:=by
 unfold szB at *
 by_cases a:l - n<0
 ·rw [if_pos a] at h;omega
 ·rw [if_neg a]
theorem aGs:∀ (j:List Cm) (l:Int),¬ qC j l<0->qC j l=l - bN j
 | [],l,_=>by simp [qC,bN]
 | c::j,l,h=>by
   simp only [qC,bN] at *
   by_cases a:szB c.t.length l<0
   ·rw [if_pos a] at h;omega
   ·rw [if_neg a] at h ⊢;rw [aGs j _ h,aCX a];omega
theorem aCI {j:List Cm} {l:Int} (h:¬ jV j l<0):jV j l=l - j.length - bN j:=by
 unfold jV at *
 by_cases a:l - j.length<0
 ·rw [if_pos a] at h;omega
 ·rw [if_neg a] at h ⊢;exact aGs j _ h
theorem vA {l:Int} {f:Int->Int} (h:¬ fV l f<0):¬ l<0/\fV l f=f l/\¬ f l<0:=by
 by_cases a:l<0
 ·exfalso;apply h;unfold fV;rw [if_pos a];omega
 ·rw [sJ a] at h ⊢;exact ⟨a,rfl,h⟩
theorem aKZ {p:Nod} {l:Int} (h:¬ mG p l<0):mG p l=l - nc p - nr p:=by
 unfold mG at *;obtain ⟨y,H,u⟩:=vA h;obtain ⟨G,X,E⟩:=vA y;obtain ⟨J,S,O⟩:=vA G;obtain ⟨j,L,U⟩:=vA J;have Y:=aCI j;have D:=aCX U;have M:=aCX O;have A:=aCX E;have N:=aCI u;rw [H,N,X,A,S,M,L,D,Y];unfold nc nr;omega
theorem aGD:∀ (j:List Nod) (l:Int),¬ pT j l<0->pT j l=l - fC j - eO j
 | [],l,_=>by simp [pT,fC,eO]
 | n::j,l,h=>by
   simp only [pT,fC,eO] at *
   by_cases a:mG n l<0
   ·rw [if_pos a] at h;omega
   ·rw [if_neg a] at h ⊢;rw [aGD j _ h,aKZ a];omega
theorem aKL {t:Tre} {l:Int} (h:¬ aAf t l<0):aAf t l=l - t.N.length - fC t.N - eO t.N - t.tail.length - bN t.tail:=by
 unfold aAf at *;obtain ⟨j,y,u⟩:=vA h
 have A:qU t.N l=l - t.N.length - fC t.N - eO t.N:=by
  unfold qU at *
  by_cases a:l - t.N.length<0
  ·rw [if_pos a] at j;omega
  ·rw [if_neg a] at j ⊢;exact aGD _ _ j
 rw [y,aCI u,A]
theorem wF:∀ (j:List Cm) (c:Cm),c∈j->(c.t.length:Int)<=bN j
 | x::j,c,h=>by
   have:=bB j;simp only [bN];rcases List.mem_cons.1 h with rfl | h
   ·omega
   ·have:=wF j c h;omega
theorem aEx:∀ (j:List Nod) (p:Nod),p∈j->nr p<=eO j
 | x::j,p,h=>by
   have:=eR j;have:=pC x;simp only [eO];rcases List.mem_cons.1 h with rfl | h
   ·omega
   ·have:=aEx j p h;omega
theorem aEN:∀ (j:List Nod) (p:Nod),p∈j->nc p<=fC j
 | x::j,p,h=>by
   have:=eV j;have:=oP x;simp only [fC];rcases List.mem_cons.1 h with rfl | h
   ·omega
   ·have:=aEN j p h;omega
theorem aFu (t:Tre) (h:¬ aAf t 1048576<0) (E:∀ p∈t.N,NBy p) (G:∀ c∈t.tail,COk c) :
  TOk t/\aCd t/\eO t.N+bN t.tail<=1048576/\fC t.N+t.tail.length<=1048576:=by
 have e:=aKL h;have a1:=eR t.N;have a2:=eV t.N;have a3:=bB t.tail
 have H:∀ p∈t.N,NOk p:=fun p A=>by
  have J:=aEx t.N p A;have M:=aEN t.N p A;have S:=bB p.L;have O:=bB p.tail;unfold nr at J;unfold nc at M;exact ⟨by omega,fun c j=>by have:=wF _ c j;omega,by omega,by omega,by omega,by omega,fun c j=>by have:=wF _ c j;omega⟩
 have y:∀ c∈t.tail,c.t.length<=1048576:=fun c j=>by have:=wF _ c j;omega
 refine ⟨⟨by omega,H,by omega,y⟩,⟨fun p A=>?_,by omega,by omega,fun c j=>⟨y c j,(G c j).by'⟩⟩,by omega,by omega⟩;have u:=H p A;have D:=E p A;refine ⟨⟨⟨u.L,fun c j=>⟨u.leads c j,(D.L c j).by'⟩⟩,⟨u.tail,fun c j=>⟨u.tails c j,(D.tail c j).by'⟩⟩,u.key,⟨u.X,D.X⟩,u.U⟩,?_⟩;have j:=D.C;simp only [Lit.wf,Bool.and_eq_true,decide_eq_true_eq] at j;have Y:IntKind.i64.min = -9223372036854775808:=(by decide);have Z:IntKind.i64.max=9223372036854775807:=(by decide);omega
theorem aGy:∀ h,(wC h:Int)=4*bN h+30*h.length
 | []=>by simp [wC,bN]
 | c::h=>by have:=aGy h;simp only [wC,bN,List.length_cons];push_cast;omega
theorem aJe:∀ j,(wNs j:Int)<=100*j.length+6*eO j+30*fC j
 | []=>by simp [wNs,eO,fC]
 | n::j=>by
   have h:=aJe j;have D:=aGy n.L;have A:=aGy n.tail;have y:=bB n.L;have u:=bB n.tail;simp only [wNs,wN,eO,fC,nr,nc,List.length_cons]
   push_cast
   omega
structure VF (t:Tre):Prop where
 d:iL t
 wt:wC t.tail<=2000000
 w:wNs t.N+wC t.tail<=3000000
 wk:aD aZ 201 false (t.N,())=some ([],())
 tl:t.tail.all gE=true
 tb:aAR t.tail
theorem aFi (t:Tre) (y:aCd t) (h:iB t=true):VF t:=by
 rw [<- aBA t y] at h;unfold lQ at h;simp only [Bool.and_eq_true,decide_eq_true_eq] at h;obtain ⟨X,H,⟨U,O⟩,J,E,D⟩:=h
 have u:∀ R,iF t.N.length 201 false t.N=some R->R.length<=t.N.length:=fun R G=>by
  obtain ⟨i,S,rfl⟩:=tK t.N.length 201 false t.N (Nat.le_refl _) 0 R (by simpa using G);simp
 rw [aBT _ _ u] at D;have A:=rL t.N.length 201 false t.N (Nat.le_refl _);rw [D] at A;have a1:=eR t.N;have a2:=eV t.N;have a3:=bB t.tail;have L:=aGy t.tail;have M:=aJe t.N;rw [List.all_eq_true] at E;exact ⟨⟨H,fun p j=>(rN p).1 (E p j),fun p j=>(y.n p j).1,fun p j=>(y.n p j).2,by omega⟩,by omega,by omega,A.symm,J,y.t.2⟩
def ftR (vv:Bool) (width ind:Int) (t:Tre):List Int × Int:=if vv=true/\(0<=width/\width<=65535)/\0<=ind/\ind<=16 then (if dY (dZ ind t)=true then ([],4) else (tY width ind t,0)) else ([],1)
theorem aFb {width ind:Int} {t:Tre} (h:VF t) (D:0<=ind) (j:ind<=16) (y:0<=width) (u:width<=65535) (E:dY (dZ ind t)=false):(∃ met,jW (dZ ind t) width=some (tY width ind t,met))/\Doc (dZ ind t)/\(tY width ind t).length<=560140000:=
 aKB D j y u E h.d.nd h.d.ok h.tl (fun c A=>(h.tb c A).2) h.wk
theorem aHh (j:Bool) (width ind:Int) (t:Tre) (hv:j=true->VF t):(ftR j width ind t).1.length<=560140000:=by
 unfold ftR
 by_cases h:j=true/\(0<=width/\width<=65535)/\0<=ind/\ind<=16
 ·rw [if_pos h];cases u:dY (dZ ind t) with
  | true=>simp
  | false=>
    simp only [Bool.false_eq_true,if_false];exact (aFb (hv h.1) h.2.2.1 h.2.2.2 h.2.1.1 h.2.1.2 u).2.2
 ·rw [if_neg h];simp
theorem aHj {ind:Int} {t:Tre} (h:dY (dZ ind t)=false):mes (dZ ind t)<=140000:=by
 simp only [dY,Bool.or_eq_false_iff,decide_eq_false_iff_not] at h;have:=wB (dZ ind t);omega
theorem aFC {ind:Int} {d:Nat} {n:Nod} {R:List Nod} (u:¬ n.k<5) (h:n.C=0) (j:n.tail≠[]):aE (aR ind (d+1) (n::R)) []=none:=by
 simp only [aR,if_neg u,oX,if_pos h,if_neg j];rw [qY];have y:aE (bC 4) []=none:=(by simp [aE,bC]);simp only [eH,y,Option.bind_none];cases aE (bR [iT n.k]) [] with
 | none=>rfl
 | some a=>
   cases aE (lW ind (iW n.tail)) [] with
   | none=>rfl
   | some a=>rfl
theorem aJU (t:Tre) (width ind:Int) (D:0<=ind) (a9:ind<=16) (M:iL t) (hx:∀ p∈t.N,NdX p):∀ (d:Nat),d<=201->aKj t width ind d
 | 0,_=>fun j R2 m nv tv ov out B H level w S hw=>by simp [aD] at hw
 | d+1,hd=>fun j R2 m nv tv ov out B H level w S hw ho hB hn ht O J Z a5 a7 hl hM E=>by
   have L:t.N.drop j=t.N[j]::t.N.drop (j+1):=List.drop_eq_getElem_cons S;have b7:=M.nd _ (List.getElem_mem S);have u:=fun (W:World) (hW:dG W.heap.size W nv tv t)=>aF6 t ind D a9 M hx (d+1) hd j R2 m nv tv W S hw hW hM;obtain ⟨f5,hO,_,_,_,f4⟩:=aBZ D a9 M hx hd hw hM
   by_cases hs:t.N[j].k<5\/(t.N[j].C=0/\t.N[j].tail=[])
   ·obtain ⟨s,A,hX⟩:=aKu (width:=width) (ind:=ind) (level:=level) (b:=H) (d:=d) (R:=t.N.drop (j+1)) (out:=out) hs;rw [<- L] at A hX;rw [hX] at E ⊢;rw [A] at u;exact aLe t M width ind H level s j S hs nv tv ov out B w ho hB hn ht u E
   ·have h5:¬ t.N[j].k<5:=fun h=>hs (.inl h);have h0:¬ (t.N[j].C=0/\t.N[j].tail=[]):=fun h=>hs (.inr h);have f3:=b7.2.2.2.2.2.2.2.2.2.2;have f8:=b7.1.2;have d2:0<=t.N[j].C:=(by omega);have a8:=hw;rw [L] at a8;obtain ⟨_,_,U⟩:=oL a8;have d0:∀ p∈t.N.drop (j+1),p.k<5->p.C=0:=fun p hp h=>((M.nd p (List.mem_of_mem_drop hp)).2.2.2.2.2.2.2.2.2.1 h).1;have d1:∀ p∈t.N.drop (j+1),NdX p:=fun p hp=>hx p (List.mem_of_mem_drop hp);have b2:ind*((d+1:Nat):Int)=ind*(d:Int)+ind:=(by rw [Int.natCast_succ,Int.mul_add,Int.mul_one]);rw [b2] at hl;have f6:0<=ind*(d:Int):=Int.mul_nonneg D (by omega);have b3:level+ind<=4000:=(by omega);have b5:(level+ind)+ind*(d:Int)<=4000:=(by omega);have IH:=aJU t width ind D a9 M hx d (by omega)
    have d4:(∀ s,aE (aR ind (d+1) (t.N.drop j)) []=some s->¬ eE out+aH s+H<=width)->out++LX width (aR ind (d+1) (t.N.drop j)) level out H=BRK width ind d t.N[j] (t.N.drop (j+1)) level out:=fun A=>by
     rw [L] at A ⊢;exact aGX D a7 O d2 a8 d0 d1 (hx _ (List.getElem_mem S)) h5 h0 A
    have X:(t.N[j].C=0/\t.N[j].tail≠[])\/0<t.N[j].C:=by
     by_cases Y:t.N[j].C=0
     ·exact .inl ⟨Y,fun e=>h0 ⟨Y,e⟩⟩
     ·exact .inr (by omega)
    have G:∀ s,aE (aR ind (d+1) (t.N.drop j)) []=some s->0<t.N[j].C/\Vt s/\s.length<=200000:=fun s A=>by
     have Y:t.N[j].C≠0:=fun Y=>by
      have d5:t.N[j].tail≠[]:=fun e=>h0 ⟨Y,e⟩;rw [L,aFC h5 Y d5] at A;cases A
     have a6:=jQ _ _ _ A;simp only [List.length_nil] at a6;exact ⟨by omega,(sI _ _ hO A).1,by omega⟩
    by_cases y:∃ s,aE (aR ind (d+1) (t.N.drop j)) []=some s/\eE out+aH s+H<=width
    ·obtain ⟨s,A,y⟩:=y;obtain ⟨Y,c9,a6⟩:=G s A;rw [A] at u
     have hX:LX width (aR ind (d+1) (t.N.drop j)) level out H=s:=by
      rw [L] at A ⊢;exact aKg h5 h0 A y
     rw [hX] at E ⊢;exact aLH t M width ind H level s j S h5 Y nv tv ov out B w ho hB hn ht u E O J c9 a6 Z a5 y
    ·have b0:∀ s,aE (aR ind (d+1) (t.N.drop j)) []=some s->¬ eE out+aH s+H<=width:=fun s h h'=>y ⟨s,h,h'⟩;have hE:=d4 b0;have c8:=congrArg List.length hE;rw [List.length_append] at c8;rw [hE];have hr:=fun (s:List Int) (h:aE (aR ind (d+1) (t.N.drop j)) []=some s)=>(⟨(G s h).1,(G s h).2.1,(G s h).2.2,b0 s h⟩:0<t.N[j].C/\Vt s/\s.length<=200000/\¬ eE out+aH s+H<=width);rcases (show t.N[j].k=5\/t.N[j].k=6 by omega) with hk | hk
     ·rw [hk] at U;exact aKr t width ind D M hx d (by omega) IH j S hk R2 (by simpa using U) hM H level a7 b3 b5 nv tv ov out B w ho hB hn ht X _ u O J Z a5 hr (by omega)
     ·rw [hk] at U;exact aK8 t width ind D M hx d (by omega) IH j S hk R2 (by simpa using U) hM H level a7 b3 b5 nv tv ov out B w ho hB hn ht X _ u O J Z a5 hr (by omega)
end Go.Proofs.YtgifkcpdihphlaaGreatDoor
namespace Go.Proofs.YtgifkcpdihphlaaGreatDoor
open Tryz
open Go.RowKit
attribute [-go_sem] Builtin.append_
theorem aA4:∀ (j:List Cm),fK [] (aP j 0)=[]
 | []=>rfl
 | c::j=>by
   have h:=xI 0 j (jE c);rw [show aP (c::j) 0=jE c++aJ 0++aP j 0 by simp [aP]];rw [h];rfl
theorem aDZ {ind:Int} {t:Tre} (h:t.N≠[]):mes (aF ind 201 t.N).1<=mes (dZ ind t):=by
 unfold dZ;cases j:t.N with
 | nil=>exact absurd j h
 | cons n R=>
   have:=rG (bI n.L++((aF ind 201 (n::R)).1::aI 4::bI t.tail));simp only [cP,bO,aI,mes] at this ⊢;omega
theorem aAG (t:Tre) (width ind:Int) (vv:Bool) (d3:vv=true->VF t) (nv tv:Value) (w:World) (hv:dG w.heap.size w nv tv t)
  (D:∀ W:World,dG W.heap.size W nv tv t->Calls prog 15 #[.agg #[nv,tv]] W fun e h4=>e=.returned (.bool vv)/\W.grownBy h4 none) :
  Calls prog 5 #[.agg #[nv,tv],.int .i64 width,.int .i64 ind] w fun e w'=>∃ v',e=.returned (.tuple #[v',.int .i64 (ftR vv width ind t).2])/\RdB w'.heap.size w' v' (ftR vv width ind t).1/\w.grownBy w' none:=by
 have l3:∀ (x:Bool) (w:World),(Op.unary .not (.bool x)).run prog w=.ok (.bool (!x)) w:=fun _ _=>rfl;obtain ⟨X,Z⟩:=id hv;have b6:Hid (∀ W:World,w.grownBy W none->dG W.heap.size W nv tv t):=fun W g=>⟨(X.K g).wide g.size,(Z.K g).wide g.size⟩;have HV:Hid (∀ W:World,w.grownBy W none->_):=fun W (g:w.grownBy W none)=>D W (b6.out W g);have H1:=aB d3;have y:Hid (∀ W:World,RdB W.heap.size W (.slice none 0 0) []):=fun W=>(Bw.nil 0 W).rd;have i6:=aB X;obtain ⟨na,E,S,_⟩:=id X;obtain ⟨ta,M,h9,_⟩:=id Z;subst S h9;clear X Z hv D d3;have gA:=World.grownBy_alloc w (Obj.cells #[.slice na t.N.length E,.slice ta t.tail.length M] 33) none;have GA:=aB gA;clear gA
 go_enter func5,ntmps5
 go_wp2_with fail
 refine (HV.out _ GA.out).mono ?_;rintro e w1 ⟨rfl,g1⟩;have G1:=aB (aA GA.out g1);have q0:=g1.cell (a:=⟨w.heap.size,0,none⟩) (v:=.slice na t.N.length E) (by simp [go_sem]) (by simp);have q1:=g1.cell (a:=⟨w.heap.size,1,none⟩) (v:=.slice ta t.tail.length M) (by simp [go_sem]) (by simp);clear g1 HV
 by_cases j:vv=true/\(0<=width/\width<=65535)/\0<=ind/\ind<=16
 ·obtain ⟨rfl,⟨f6,d5⟩,c0,O⟩:=j;have b1:decide (width<0)=false:=(by simp;omega);have b2:decide (65535<width)=false:=(by simp;omega);have b3:decide (ind<0)=false:=(by simp;omega);have b4:decide (16<ind)=false:=(by simp;omega);have Y:=H1.out rfl;have HF:=aB Y;have f8:=aB (aGW t ind Y.d Y.w Y.wk _ _ w1 (b6.out w1 G1.out))
  have h8:Hid (mes (dZ ind t)<=4194304):=by
   have h:=aJf t ind Y.d Y.wk;have:=Y.w;unfold Hid;omega
  clear H1 Y
  go_wp2_with fail
  refine f8.out.mono ?_;rintro e A ⟨v2,rfl,o2,g2⟩;have d8:=aB (aDC v2 _ _ A o2.pi h8.out);have G2:=aB (aA G1.out g2);replace q0:=g2.cell q0 (by simp);replace q1:=g2.cell q1 (by simp);have HR:=aB (show ftR true width ind t=if dY (dZ ind t)=true then ([],4) else (tY width ind t,0) by unfold ftR;rw [if_pos ⟨rfl,⟨f6,d5⟩,c0,O⟩]);obtain ⟨a2,c2,f3,_,_⟩:=o2.sl;generalize i3:(dZ ind t).length=L2 at f3;subst f3;clear o2 g2 f8 i3
  go_wp2_with fail
  refine d8.out.mono ?_;rintro e w3 ⟨rfl,rfl⟩;clear d8;cases G:dY (dZ ind t) with
  | true=>
    have u:=aB (show ftR true width ind t=([],4) by rw [HR.out,G];rfl);clear G HR;go_wp2;go_ret2;exact ⟨.slice none 0 0,by rw [u.out];rfl,by rw [u.out];exact y.out _,G2.out⟩
  | false=>
    have u:=aB (show ftR true width ind t=(tY width ind t,0) by rw [HR.out,G];rfl);obtain ⟨_,_,d6⟩:=aFb HF.out c0 O f6 d5 G;have l8:=aHj G;have d4:=HF.out.wk;obtain ⟨n,R,H⟩:=vZ d4;have m2:=aDZ (ind:=ind) (t:=t) (by rw [H];simp);have J:0<t.N.length:=(by rw [H];simp);have S:t.N[0]=n:=(by simp [H]);have d1:Hid (tY width ind t=((aP n.L 0++LX width (aR ind 201 t.N) 0 (aP n.L 0) 0)++[10])++aP t.tail 0):=(by unfold Hid tY;rw [H]);rw [d1.out] at d6;simp only [List.length_append,List.length_cons,List.length_nil] at d6;have f9:RdN A.heap.size A (.slice na t.N.length E) t.N:=(i6.out.K G2.out).wide G2.out.size;obtain ⟨b,off,k5,lv,kv,xv,uv,qv,h7,n1,hp⟩:=f9.at 0 J;have z1:=hp.L;have U:=hp.rl;rw [S] at U;obtain ⟨la,l5,i7,_,_⟩:=U.sl;cases h7;have f4:=aB (nK (.slice none 0 0) lv [] n.L 0 A.heap.size A (Bw.nil _ _) (Nat.le_refl _) U (fun c hc=>aC4 HF.out.d.wt (by rw [H];simp) hc) (Int.le_refl 0) (by omega) (by simp only [List.length_nil];omega));have f5:Hid (aKj t width ind 201):=aJU t width ind c0 O HF.out.d (fun p hp=>aHR (HF.out.d.nd p hp) (HF.out.d.ok p hp)) 201 (Nat.le_refl _);have b9:Hid (∀ W:World,Below A.heap.size A W->RdN A.heap.size W (.slice (some ⟨b,off,none⟩) t.N.length E) t.N/\RdC A.heap.size W (.slice ta t.tail.length M) t.tail):=fun W g=>⟨mK f9 g,bS ((b6.out A G2.out).2) g⟩;have i5:Hid (Cu (aP n.L 0)):=(by unfold Hid Cu;rw [aA4];exact mN);have j6:Hid (∀ c∈t.tail,c.t.length<=1000000):=fun c hc=>by have:=aC9 hc;have:=HF.out.wt;omega
    subst i7;rw [show off+0*8+1=off+1 by omega] at z1;clear hp U G HR S H
    go_wp2_with fail
    refine f4.out.mono ?_;rintro e w4 ⟨v4,rfl,o4,t4⟩;rw [List.nil_append] at o4;have g4:A.grownBy w4 none:=t4.gr;have G4:=aB (aA G2.out g4);have a8:=b9.out w4 (aO g4);have Q1:=aB q1;have a9:=aB (f5.out 0 [] false _ _ v4 (aP n.L 0) A.heap.size 0 0 w4 J (by rw [List.drop_zero];exact d4) o4 g4.size a8.1 a8.2 i5.out (by rw [aA4];simp) (Int.le_refl 0) (by omega) (Int.le_refl 0) (by omega) (by rw [List.drop_zero];omega) (by rw [List.drop_zero];omega));rw [List.drop_zero,show (((0:Nat):Int))=0 from rfl] at a9;replace q0:=g4.cell q0 (by simp);replace q1:=g4.cell q1 (by simp);have g0:=aB t4;obtain ⟨a4,c4,d9,_,_⟩:=o4.sl;generalize (aP n.L 0).length=L4 at d9;subst d9;have m1:=g4.size;clear o4 t4 g4 a8 f4 f5 z1
    go_wp2_with fail
    refine a9.out.mono ?_;rintro e w5 ⟨v5,rfl,o5,t5⟩;have T5:=aB (g0.out.trans t5);have m3:=t5.gr.size;obtain ⟨v6,w6,k1,o6,t6⟩:=mO A.heap.size w5 v5 _ 10 o5 (by omega) (by simp only [List.length_append];omega);have T6:=aB (T5.out.trans t6);have g6:A.grownBy w6 none:=T6.out.gr;have j2:=g6.size;have f7:=aB (nK v6 _ _ t.tail 0 A.heap.size w6 o6 j2 (b9.out w6 (aO g6)).2 j6.out (Int.le_refl 0) (by omega) (by simp only [List.length_append,List.length_cons,List.length_nil];omega));have q1:=g6.cell Q1.out (by simp);obtain ⟨a5,c5,g3,_,_⟩:=o5.sl;obtain ⟨a6,c6,d2,_,_⟩:=o6.sl;generalize (aP n.L 0++LX width (aR ind 201 t.N) 0 (aP n.L 0) 0).length=L5 at g3;generalize (aP n.L 0++LX width (aR ind 201 t.N) 0 (aP n.L 0) 0++[10]).length=L6 at d2;subst g3 d2;clear o5 o6 t5 t6 g6 a9 g0 T5 b9
    go_wp2_with fail
    refine f7.out.mono ?_;rintro e w7 ⟨v7,rfl,o7,t7⟩;have g7:A.grownBy w7 none:=(T6.out.trans t7).gr;have G7:=aB (aA G2.out g7);rw [<- d1.out] at o7;have i2:=aB o7.rd;obtain ⟨a7,c7,d7,_,_⟩:=o7.sl;generalize (tY width ind t).length=L7 at d7;subst d7;clear o7 t7 g7 f7 T6;go_wp2;go_ret2;exact ⟨_,by rw [u.out];rfl,by rw [u.out];exact i2.out,G7.out⟩
 ·have u:=aB (show ftR vv width ind t=([],1) by unfold ftR;rw [if_neg j]);cases vv with
  | false=>
    clear j;go_wp2;go_ret2;exact ⟨.slice none 0 0,by rw [u.out];rfl,by rw [u.out];exact y.out _,G1.out⟩
  | true=>
    by_cases c1:width<0
    ·have j8:decide (width<0)=true:=(by simpa using c1);clear j;go_wp2;go_ret2;exact ⟨.slice none 0 0,by rw [u.out];rfl,by rw [u.out];exact y.out _,G1.out⟩
    ·have j8:decide (width<0)=false:=by simpa using c1
     by_cases c2:65535<width
     ·have j5:decide (65535<width)=true:=(by simpa using c2);clear j;go_wp2;go_ret2;exact ⟨.slice none 0 0,by rw [u.out];rfl,by rw [u.out];exact y.out _,G1.out⟩
     ·have j5:decide (65535<width)=false:=by simpa using c2
      by_cases c3:ind<0
      ·have i0:decide (ind<0)=true:=(by simpa using c3);clear j;go_wp2;go_ret2;exact ⟨.slice none 0 0,by rw [u.out];rfl,by rw [u.out];exact y.out _,G1.out⟩
      ·have i0:decide (ind<0)=false:=by simpa using c3
       by_cases c4:16<ind
       ·have l9:decide (16<ind)=true:=(by simpa using c4);clear j;go_wp2;go_ret2;exact ⟨.slice none 0 0,by rw [u.out];rfl,by rw [u.out];exact y.out _,G1.out⟩
       ·exact absurd ⟨rfl,⟨by omega,by omega⟩,by omega,by omega⟩ j
end Go.Proofs.YtgifkcpdihphlaaGreatDoor
namespace Go.Proofs.YtgifkcpdihphlaaGreatDoor
open Tryz
open Go.RowKit
def TxO (B:Nat) (w:World) (tv:Value) (t:List Int):Prop:=
 (tv=.slice none 0 0/\t=[])\/∃ g cap,tv=.slice (some ⟨g,0,none⟩) t.length cap/\t.length<=cap/\cap<=maxLen/\B<=g/\g<w.heap.size/\∀ j,j<t.length->w.cell? ⟨g,j,none⟩=some (.int .u8 (t[j]?.getD 0))/\w.frozen? ⟨g,j,none⟩=false
theorem TxO.lt {B:Nat} {w:World} {tv:Value} {t:List Int} (h:TxO B w tv t):∀ g,tv.ownBlock=some g->B<=g/\g<w.heap.size:=by
 rcases h with ⟨rfl,_⟩ | ⟨g,cap,rfl,_,_,u,j,_⟩
 ·intro g e;cases e
 ·intro k e;cases e;exact ⟨u,j⟩
theorem TxO.sl {B:Nat} {w:World} {tv:Value} {t:List Int} (h:TxO B w tv t):Sl tv t.length:=by
 rcases h with ⟨rfl,rfl⟩ | ⟨g,cap,rfl,u,j,y,A,_⟩
 ·exact ⟨none,0,rfl,Nat.le_refl _,by unfold maxLen;omega⟩
 ·exact ⟨_,_,rfl,u,j⟩
theorem TxO.row {B:Nat} {w w':World} {r:Option Nat} {tv:Value} {t:List Int} (h:TxO B w tv t) (g:w.grownBy w' r) (G:∀ x,tv.ownBlock=some x->r≠some x):TxO B w' tv t:=by
 rcases h with ⟨rfl,rfl⟩ | ⟨x,cap,rfl,H,E,J,y,A⟩
 ·exact .inl ⟨rfl,rfl⟩
 ·have u:some x≠r:=fun e=>G x rfl e.symm;refine .inr ⟨x,cap,rfl,H,E,J,Nat.lt_of_lt_of_le y g.size,fun j D=>⟨g.cell (A j D).1 u,?_⟩⟩;rw [World.frozen?_of_block (g.block x y u)];exact (A j D).2
theorem TxO.K {B:Nat} {w w':World} {tv:Value} {t:List Int} (h:TxO B w tv t) (g:w.grownBy w' none):TxO B w' tv t:=h.row g (fun _ _ e=>by cases e)
theorem TxO.base {B B':Nat} {w:World} {tv:Value} {t:List Int} (h:TxO B w tv t) (E:B'<=B):TxO B' w tv t:=by
 rcases h with h | ⟨x,cap,D,u,j,G,y,A⟩
 ·exact .inl h
 ·exact .inr ⟨x,cap,D,u,j,by omega,y,A⟩
theorem TxO.nil (B:Nat) (w:World):TxO B w (.slice none 0 0) []:=.inl ⟨rfl,rfl⟩
theorem TxO.txR {B:Nat} {w:World} {tv:Value} {t:List Int} (h:TxO B w tv t):TxR B w none tv t:=by
 rcases h with ⟨rfl,rfl⟩ | ⟨g,cap,rfl,y,u,A,D,E⟩
 ·exact TxR.nil _ _ _
 ·exact ⟨_,cap,rfl,y,u,fun _=>⟨g,0,rfl,⟨A,D,by simp⟩,fun j G=>by rw [Nat.zero_add];exact (E j G).1⟩⟩
def Lat (tvs:List Value):Prop:=tvs.Pairwise (fun a b=>∀ g g',a.ownBlock=some g->b.ownBlock=some g'->g<g')
def DfR (H:Nat) (w:World) (v:Value) (ps:List Pc):Prop:=
 ∃ tvs:List Value,tvs.length=ps.length/\w.ownsRow H 74 3 v ps.length (mE ps tvs)/\(∀ (j:Nat) (p:Pc) (tv:Value),ps[j]?=some p->tvs[j]?=some tv->TxO H w tv p.t/\∀ g,tv.ownBlock=some g->v.ownBlock≠some g)/\Lat tvs
theorem DfR.lt {H:Nat} {w:World} {v:Value} {ps:List Pc} (h:DfR H w v ps):∀ k,v.ownBlock=some k->H<=k/\k<w.heap.size:=by
 obtain ⟨u,_,j,_⟩:=h;exact fun k e=>World.ownsRow.lt j k e
theorem DfR.nil (H:Nat) (w:World):DfR H w (.slice none 0 0) []:=⟨[],rfl,⟨by simp [mE],.inl ⟨rfl,rfl⟩⟩,fun j p tv h=>by simp at h,List.Pairwise.nil⟩
theorem DfR.K {H:Nat} {w w':World} {v:Value} {ps:List Pc} (h:DfR H w v ps) (g:w.grownBy w' none):DfR H w' v ps:=by
 obtain ⟨u,G,J,y,E⟩:=h;exact ⟨u,G,World.ownsRow.kept J g (by cases v.ownBlock<;>simp),fun j p tv A D=>⟨(y j p tv A D).1.K g,(y j p tv A D).2⟩,E⟩
theorem DfR.set {H:Nat} {w:World} {v:Value} {ps:List Pc} (h:DfR H w v ps) (b j:Nat) (x:Value) (N:b<H):DfR H (w.setCell ⟨b,j,none⟩ x) v ps:=by
 obtain ⟨A,M,G,u,L⟩:=h;have g:w.grownBy (w.setCell ⟨b,j,none⟩ x) (some b):=⟨rfl,rfl,rfl,by simp,fun i _ J=>Below.heap_setCell _ _ _ _ (fun e=>J (by rw [e]))⟩;exact ⟨A,M,World.ownsRow.kept G g (.inr (fun e=>by have:=(World.ownsRow.lt G b e).1;omega)),fun j p tv D E=>⟨(u j p tv D E).1.row g (fun y e h=>by cases h;have:=((u j p tv D E).1.lt b e).1;omega),(u j p tv D E).2⟩,L⟩
theorem DfR.sl {H:Nat} {w:World} {v:Value} {ps:List Pc} (h:DfR H w v ps):∃ a cap,v=.slice a ps.length cap:=by
 obtain ⟨u,_,j,_⟩:=h;exact aAj j
theorem DfR.po {H:Nat} {w:World} {v:Value} {ps:List Pc} (h:DfR H w v ps):PoR H w v ps:=by
 obtain ⟨u,hl,Z,J,hp⟩:=h;refine ⟨_,Z,fun j p A=>?_⟩;have M:=(List.getElem?_eq_some_iff.1 A).1;obtain ⟨tv,y⟩:∃ tv,u[j]?=some tv:=⟨u[j]'(by omega),List.getElem?_eq_getElem (by omega)⟩;obtain ⟨U,G,S⟩:=uM ps u j p tv A y;obtain ⟨h1,h2⟩:=J j p tv A y;refine ⟨tv,U,G,S,?_⟩;obtain ⟨a,cap,e,O,N,L⟩:=h1.txR;refine ⟨a,cap,e,O,N,fun X=>?_⟩;obtain ⟨b,off,E,D,Y⟩:=L X;exact ⟨b,off,E,⟨D.1,D.2.1,fun q=>h2 b (by rw [e,E];rfl) q.symm⟩,Y⟩
theorem aBY:∀ (ps:List Pc) (j:List Value) (p:Pc) (tv:Value),j.length=ps.length->mE (ps++[p]) (j++[tv])=mE ps j++[.int .i64 p.k,tv,.int .i64 p.n]
 | [],[],_,_,_=>rfl
 | _::ps,_::j,p,tv,h=>by simp only [List.length_cons,Nat.add_right_cancel_iff] at h;simp only [List.cons_append,mE,aBY ps j p tv h,pcC,List.append_assoc]
 | [],_::_,_,_,h=>by simp at h
 | _::_,[],_,_,h=>by simp at h
theorem DfR.push {H:Nat} {w0 w:World} {v:Value} {ps:List Pc} (k n:Int) (tv:Value) (t:List Int) (hd:DfR H w0 v ps) (g:w0.grownBy w none) (ht:TxO w0.heap.size w tv t) (hH:H<=w0.heap.size) (hn:ps.length<=1000000) :
  ∃ N w',(Builtin.append_ #[44,44] 44 #[v,.slice (some ⟨w.heap.size,0,none⟩) 1 1]).run prog (w.alloc (Obj.cells #[.int .i64 k,tv,.int .i64 n] 74))=.ok N w'/\DfR H w' N (ps++[⟨k,t,n⟩])/\w.grownBy w' v.ownBlock/\∃ a cap,N=.slice a (ps.length+1) cap:=by
 obtain ⟨i0,hi,a6,b4,b5⟩:=info_parts aII;have gA:=World.grownBy_alloc w (Obj.cells #[.int .i64 k,tv,.int .i64 n] 74) none;have b8:=World.grownBy_alloc w (Obj.cells #[.int .i64 k,tv,.int .i64 n] 74) v.ownBlock;have hs:=g.size;obtain ⟨D,hl,ho,b3,hp⟩:=(hd.K g).K gA;have b0:(w.alloc (Obj.cells #[.int .i64 k,tv,.int .i64 n] 74)).heap.size=w.heap.size+1:=by simp
 have M:∀ j u,([.int .i64 k,tv,.int .i64 n]:List Value)[j]?=some u->(w.alloc (Obj.cells #[.int .i64 k,tv,.int .i64 n] 74)).cell? ((⟨w.heap.size,0,none⟩:Addr).add j)=some u:=by
  intro j u y;rw [Addr.add_lit,Nat.zero_add]
  match j,y with
  | 0,y=>simp at y;subst y;simp [go_sem]
  | 1,y=>simp at y;subst y;simp [go_sem]
  | 2,y=>simp at y;subst y;simp [go_sem]
  | j+3,y=>simp at y
 obtain ⟨N,w',O,h1,h2,_,h4⟩:=run_append_own_at (P:=prog) (w.alloc (Obj.cells #[.int .i64 k,tv,.int .i64 n] 74)) H 44 44 74 i0 (.agg #[.int .i64 0,.slice none 0 0,.int .i64 0]) 3 40 underlying44 hi a6 b4 b5 rfl (by decide) v ps.length _ ho ⟨w.heap.size,0,none⟩ 1 1 _ rfl M
  (by intro x hx;simp at hx;rcases hx with rfl | rfl | rfl
      ·rfl
      ·exact nY ht.sl
      ·rfl) (by unfold maxLen;omega) (by omega) (by omega)
 have U:∀ A,(∃ (j:Nat) (p:Pc) (u:Value),ps[j]?=some p/\D[j]?=some u/\u.ownBlock=some A)->A<w0.heap.size:=by
  rintro A ⟨j,p,u,y,L,hg⟩;obtain ⟨G,c2,b9,S,d4⟩:=hd
  have:G=D:=by
   have e1:=World.ownsRow.kept (World.ownsRow.kept b9 g (by cases v.ownBlock<;>simp)) gA (by cases v.ownBlock<;>simp);apply List.ext_getElem?;intro i
   by_cases J:i<ps.length
   ·have k0:=uM ps G i (ps[i]) (G[i]'(by omega)) (by simp [J]) (by simp [c2,J]);have k1:=uM ps D i (ps[i]) (D[i]'(by omega)) (by simp [J]) (by simp [hl,J]);rcases ho.2 with ⟨hv,a7⟩ | ⟨x,cap,c6,hv,_⟩
    ·omega
    ·have c0:=World.ownsRow.cellAt (hv ▸ e1) (i*3+1) (by omega);have c1:=World.ownsRow.cellAt (hv ▸ ho) (i*3+1) (by omega);rw [k0.2.1] at c0;rw [k1.2.1] at c1;rw [c0] at c1;simp only [Option.some.injEq] at c1;rw [List.getElem?_eq_getElem (by omega),List.getElem?_eq_getElem (by omega),c1]
   ·rw [List.getElem?_eq_none (by omega),List.getElem?_eq_none (by omega)]
  subst this;exact ((S j p u y L).1.lt A hg).2
 have E:∀ A,tv.ownBlock=some A->w0.heap.size<=A/\A<w.heap.size:=fun A e=>ht.lt A e
 have X:∀ x,N.ownBlock=some x->(v.ownBlock=some x\/x=w.heap.size+1):=fun x e=>by
  rcases h4 with h | h
  ·exact .inl (by rw [<- h];exact e)
  ·rw [h,b0] at e;cases e;exact .inr rfl
 refine ⟨N,w',O,⟨D++[tv],by simp [hl],?_,?_,?_⟩,aA b8 h2,?_⟩
 ·rw [aBY ps D _ _ hl,List.length_append];exact h1
 ·intro j p u y L
  by_cases b2:j<ps.length
  ·rw [List.getElem?_append_left b2] at y;rw [List.getElem?_append_left (by omega)] at L;obtain ⟨q1,Y⟩:=b3 j p u y L;refine ⟨q1.row h2 (fun x e h=>Y x e h),fun A e h=>?_⟩;rcases X A h with Z | Z
   ·exact Y A e Z
   ·have:=U A ⟨j,p,u,y,L,e⟩;omega
  ·have a8:j=ps.length:=(by have:=(List.getElem?_eq_some_iff.1 y).1;simp at this;omega);subst a8;simp at y;rw [<- hl] at L;simp at L;subst y L;have Y:∀ x,tv.ownBlock=some x->v.ownBlock≠some x:=fun x e h=>by have h1:=(hd.lt x h).2;have:=(E x e).1;omega
   refine ⟨((ht.base hH).K gA).row h2 (fun x e h=>Y x e h),fun A e h=>?_⟩;rcases X A h with Z | Z
   ·exact Y A e Z
   ·have:=(E A e).2;omega
 ·unfold Lat;rw [List.pairwise_append];refine ⟨hp,by simp,?_⟩;intro a ha b hb g1 g2 e1 e2;simp at hb;subst hb;obtain ⟨j,y,b7⟩:=List.getElem_of_mem ha;have:=U g1 ⟨j,ps[j]'(by omega),a,by simp [show j<ps.length by omega],by rw [<- b7];simp [y],e1⟩;have:=(E g2 e2).1;omega
 ·rcases h1.2 with ⟨hv,a7⟩ | ⟨x,cap,c6,hv,_⟩
  ·omega
  ·exact ⟨_,cap,hv⟩
def oB (s:List Pc × Bool) (p:Pc):List Pc × Bool:=if s.2=true\/s.1.length=40000\/100000 - cR s.1<p.t.length then (s.1,true) else (s.1++[p],false)
def iM (s:List Pc × Bool) (ps:List Pc):List Pc × Bool:=ps.foldl oB s
theorem sO (s:List Pc × Bool) (a b:List Pc):iM s (a++b)=iM (iM s a) b:=by simp [iM]
structure gP (H:Nat) (w:World) (bd:Nat) (s:List Pc × Bool):Prop where
 v:∃ dv,w.cell? ⟨bd,0,none⟩=some dv/\DfR H w dv s.1
 r:w.cell? ⟨bd,1,none⟩=some (.int .i64 (100000 - cR s.1))
 f:w.cell? ⟨bd,2,none⟩=some (.bool s.2)
 fz:∀ j,w.frozen? ⟨bd,j,none⟩=false
 n:s.1.length<=40000
 sm:cR s.1<=100000
theorem gP.K {H:Nat} {w w':World} {bd:Nat} {s:List Pc × Bool} (h:gP H w bd s) (g:w.grownBy w' none):gP H w' bd s:=by
 obtain ⟨A,u,y⟩:=h.v;exact ⟨⟨A,g.cell u (by simp),y.K g⟩,g.cell h.r (by simp),g.cell h.f (by simp),fun j=>by rw [World.frozen?_of_block (g.block bd (World.block_lt_of_cell? w _ u) (by simp))];exact h.fz j,h.n,h.sm⟩
structure Frd (H bd:Nat) (w w':World):Prop where
 os:w'.os=w.os
 tape:w'.tape=w.tape
 output:w'.output=w.output
 size:w.heap.size<=w'.heap.size
 block:∀ k,k<H->k≠bd->w'.heap[k]?=w.heap[k]?
theorem Frd.refl (H bd:Nat) (w:World):Frd H bd w w:=⟨rfl,rfl,rfl,Nat.le_refl _,fun _ _ _=>rfl⟩
theorem Frd.trans {H bd:Nat} {a b c:World} (h:Frd H bd a b) (k:Frd H bd b c):Frd H bd a c:=
 ⟨k.os.trans h.os,k.tape.trans h.tape,k.output.trans h.output,Nat.le_trans h.size k.size,fun i j u=>(k.block i j u).trans (h.block i j u)⟩
theorem Frd.grown {H bd:Nat} {a b:World} {r:Option Nat} (g:a.grownBy b r) (j:H<=a.heap.size) (h:∀ x,r=some x->H<=x\/x=bd):Frd H bd a b:=
 ⟨g.os,g.tape,g.output,g.size,fun k y u=>g.block k (by omega) (fun e=>by have:=h k e.symm;omega)⟩
theorem Frd.set (H bd:Nat) (w:World) (j:Nat) (x:Value):Frd H bd w (w.setCell ⟨bd,j,none⟩ x):=
 ⟨rfl,rfl,rfl,by simp,fun k _ h=>Below.heap_setCell _ _ _ _ (by simpa using h)⟩
end Go.Proofs.YtgifkcpdihphlaaGreatDoor
