import Derived.RangeFuncNested
import Derived.RangeFuncBound
import Derived.RangeFuncCalls
import Derived.RangeFuncLeaves
import Derived.RangeFuncBox
import Derived.Shelf.Abstract
import Derived.Shelf.RegionOpen
import Derived.OwnWalkIn
import Derived.TacticsInMore
import Derived.LoopNIn
import Derived.LoopIn
import Derived.Maps.AppendAt
import Derived.Test.YtckcaefnokeodaaGreatDoorMAB
set_option maxHeartbeats 16000000
set_option maxRecDepth 100000
namespace Go.Proofs.YtckcaefnokeodaaGreatDoor
open Go.Proofs.Tryz List World
section
open Go.RowKit Go.Shelf
attribute [local go_sem] Oper.semAt_some
def KpB (n₀ Bx:Nat) (W W':World):Prop:=Below n₀ W W'/\W'.heap[Bx]?=W.heap[Bx]?
theorem aLK {n₀ Bx A B C} (h:KpB n₀ Bx A B) (k:KpB n₀ Bx B C):KpB n₀ Bx A C:=⟨h.1.trans k.1,k.2.trans h.2⟩
theorem aLI {n₀ Bx:Nat} {w:World} (D:n₀<=w.heap.size) (H:Bx<w.heap.size) (W:World) (l:Nat) (o:Obj) (A) (G:w.heap.size<=l) (h:W.heap[l]?=some o) (E:o.isCells=false) (F:o.isWalk=false):KpB n₀ Bx W (W.putObj l A):=
 ⟨belowK_b D W l o A G h E F,putObj_heap_other (by omega)⟩
theorem aCX (n:Nat) (hn:1<=n) (l Bx n₀ v zs) (c2:Bys zs) (hm:zs.length<=4194304) (hs:Sl v zs.length) (J Jx:List (Int × Int)->World->Prop) (W:World) (hJ:AbidesFrom W.heap.size J) (hY:∀ A x W,J A W->A.length<zs.length->YieldAt Fence.wide (n - 1) prog l #[.int .i64 x.1,.int .i32 x.2] W fun e W'=>
   (e=.returned (.bool true)/\J (A++[x]) W'/\KpB n₀ Bx W W')\/(e=.returned (.bool false)/\Jx (A++[x]) W')) (c3:Boxed W Bx 22 v) (hn₀:n₀<=W.heap.size) (hv:RdB n₀ W v zs) (hT:Tab W) (hp:0<n₀) (h0:J [] W) :
  CallsIn Fence.wide n prog 152 #[.func (.yield l) #[] #[],.pointer (some ⟨Bx,0,none⟩)] W fun e W'=>(∃ v,e=.returned v)/\
   ((∃ ys,ys=lB zs/\J ys W')\/(∃ A,A <+: lB zs/\Jx A W')):=by
 obtain ⟨a,D,rfl,f6,c6⟩:=hs;unfold maxLen at c6;have d9:∀ (x:Bool) (w:World),(Op.unary .not (.bool x)).run prog w=.ok (.bool (!x)) w:=fun _ _=>rfl;refine callsIn_of_wp func152 rfl trivial ?_ rfl;simp only [ntmps152,size_toArray,length_cons,length_nil,Nat.reduceAdd,Nat.reduceSub,Array.replicate_succ,Array.replicate_zero,push_toArray,append_toArray,nil_append,cons_append]
 gi_wp2
 gi_loopw [3] (fun i wr=>∃ (k:Nat) (A:List (Int × Int)),i=.int .i64 k/\tY zs A k/\J A wr/\Boxed wr Bx 22 (.slice a zs.length D)/\n₀<=wr.heap.size/\RdB n₀ wr (.slice a zs.length D) zs/\Tab wr)
  (fun i _=>zs.length - (intOf i).toNat)
 case atStart=>exact ⟨0,[],rfl,tY.start zs,h0,c3,hn₀,hv,hT⟩
 case round=>
  obtain ⟨k,A,rfl,G,a2,Y,O,d0,F⟩:=hrel;have hc:=Y.cell;have f5:=G.1;have HM:Hid (tY zs A k):=G;clear G
  by_cases H:k<zs.length
  .obtain ⟨a',d6,N,b8⟩:=d0;obtain ⟨b,E,b2,c8,a0⟩:=b8 (fun h=>by simp [h] at H);have c4:a=some ⟨b,E,none⟩:=(by simp at N;rw [N.1];exact b2);subst c4;obtain ⟨s,hs⟩:∃ s,s=zs.drop k:=⟨_,rfl⟩;have c9:s.length=zs.length - k:=by rw [hs,length_drop]
   have a5:RdB wr.heap.size wr (.slice (some ⟨b,E+k,none⟩) (zs.length - k) (D - k)) s:=by
    refine ⟨some ⟨b,E+k,none⟩,D - k,by rw [c9],fun _=>⟨b,E+k,rfl,by omega,fun j hj=>?_⟩⟩;rw [Nat.add_assoc,a0 (k+j) (by omega),hs,qM]
   have b1:Bys s:=fun z hz=>c2 z (by rw [hs] at hz;exact mem_of_mem_drop hz);have HR:Hid (RdB n₀ wr (.slice (some ⟨b,E,none⟩) zs.length D) zs):=⟨_,D,rfl,fun _=>⟨b,E,rfl,c8,a0⟩⟩;have HS:Hid (s=zs.drop k):=hs;have f2:¬ D=k:=(by omega);have b3:=rJ _ s wr F a5 b1 (by omega) (by omega);have b4:=b3;clear N b8 b2 a0 hs a5 b1 b3
   gi_wp2_with fail
   refine ⟨trivial,(callsIn_wide.2 b4).mono ?_⟩;rintro e W1 ⟨rfl,S⟩;have g1:=aC S;have a8:=hJ A wr W1 none a2 g1 (fun r e=>by cases e);have b5:=Y.kept g1 (by simp);have d1:Hid (RdB n₀ W1 (.slice (some ⟨b,E,none⟩) zs.length D) zs):=HR.out.below (S.mono O);have c7:Hid (Tab W1):=F.K g1;have a6:n₀<=W1.heap.size:=Nat.le_trans O g1.size;have g0:=HM.out.2.1;have a9:=hY A ((k:Int),fpP s) W1 a8 (by omega);have HJ:=hJ;have HY:=hY;clear a2 Y F b4 hc S g1 a8 HR O
   by_cases hf:aJ s=0
   .have I:Hid (A++[((k:Int),fpP s)]=lB zs):=by
     have h:=HM.out.bad H (by rw [<- HS.out];exact hf);rw [<- HS.out] at h;exact h
    have Z:(fpP s == -1)=true:=(by rw [fA hf];rfl);obtain ⟨fn,tmps,M,b6,hy,hR⟩:=a9;dsimp only at hy;clear hf;generalize fpP s=p at hy I Z hR
    gi_wp2
    refine hR.mono ?_;rintro e W3 (⟨rfl,hJ3,hk3⟩ | ⟨rfl,hJx3⟩)
    .gi_wp2
     refine bodyPost_ret (results_none rfl _ _ _) rfl ?_;exact ⟨⟨_,rfl⟩,.inl ⟨_,I.out,hJ3⟩⟩
    .gi_wp2
     refine bodyPost_ret (results_none rfl _ _ _) rfl ?_;exact ⟨⟨_,rfl⟩,.inr ⟨_,by rw [I.out];exact prefix_refl _,hJx3⟩⟩
   .have I:Hid (tY zs (A++[((k:Int),fpP s)]) (k+aJ s)):=by
     have h:=HM.out.step H (by rw [<- HS.out];exact hf);rw [<- HS.out] at h;exact h
    have Z:(fpP s == -1)=false:=(by have:=aLQ hf;simp;omega);have c5:=I.out.1;obtain ⟨fn,tmps,M,b6,hy,hR⟩:=a9;dsimp only at hy;generalize fpP s=p at hy I Z hR;generalize aJ s=m at I c5 hf
    gi_wp2
    refine hR.mono ?_;rintro e W3 (⟨rfl,hJ3,hk3⟩ | ⟨rfl,hJx3⟩)
    .gi_wp2
     go_roundw
     case rel=>exact ⟨k+m,_,by go_num,I.out,hJ3,hk3.2.trans b5,Nat.le_trans a6 hk3.1.size,d1.out.below hk3.1,c7.out.below hk3.1 hp⟩
     case measure=>simp [intOf];omega
    .gi_wp2
     refine bodyPost_ret (results_none rfl _ _ _) rfl ?_;exact ⟨⟨_,rfl⟩,.inr ⟨_,I.out.prefix,hJx3⟩⟩
  .gi_wp2
   go_end0
   exact ⟨⟨_,rfl⟩,.inl ⟨A,HM.out.done H,a2⟩⟩
theorem yV (n) (a:Option Addr) (A h:Nat) (w) :
  CallsIn Fence.wide n prog 132 #[.slice a A h] w fun e D=>e=.returned (.func (.func 152) #[] #[.pointer (some ⟨w.heap.size,0,none⟩)])/\w.alloc (.cells #[.slice a A h] 22)=D:=by
 refine callsIn_of_wp func132 rfl trivial ?_ rfl;simp only [ntmps132,size_toArray,length_cons,length_nil,Nat.reduceAdd,Nat.reduceSub,Array.replicate_succ,Array.replicate_zero,push_toArray,append_toArray,nil_append,cons_append]
 gi_wp2
 go_ret;exact ⟨rfl,rfl⟩
theorem sE (n:Nat) (S:1<=n) (A) (n₀:Nat) (v h w) (E:Bys h) (hm:h.length<=4194304) (Z:Sl v h.length) (F:Boxed w A 22 v) (hn₀:n₀<=w.heap.size) (M:RdB n₀ w v h) (H:Tab w) (N:0<n₀) :
  SeqStopsK Fence.wide n prog 152 #[.pointer (some ⟨A,0,none⟩)] (fun x:Int × Int=>#[Value.int .i64 x.1,Value.int .i32 x.2]) (KpB n₀ A) (fun I=>I=lB h) (fun G=>G <+: lB h) h.length w:=fun l J O W D hJ _ Y h0=>
 aCX n S l A n₀ v h E hm Z J O W hJ Y (F.kept (aC D) (by simp)) (Nat.le_trans hn₀ D.size) (M.below (D.mono hn₀)) (H.below D H.pos) N h0
end
structure Pc where
 k:Int
 t:List Int
 n:Int
deriving Inhabited
def ar (k:Int):Nat:=if k=6\/k=9 then 2 else if k=7\/k=8 then 1 else 0
def mX (p:Pc):Bool:=
 decide (0<=p.k/\p.k<=9)&&(if p.k=1 then !p.t.contains 10&&decide (0<=aF p.t) else p.t.isEmpty)&&(if p.k=7 then decide (0<=p.n) else decide (p.n=0))
inductive Tr where
 | leaf (p:Pc)
 | un (p:Pc) (x:Tr)
 | bin (p:Pc) (x y:Tr)
def cR:List Pc->Int
 | []=>0
 | p::ps=>p.t.length+cR ps
def kO:List Pc->Nat->List Int->List Int->List Int × List Int
 | [],_,op,out=>(out,op)
 | p::ps,i,op,out=>
   if op.length<ar p.k then (out,op)
   else
    let s:Int:=if ar p.k=0 then (i:Int) else op[ar p.k - 1]?.getD 0
    kO ps (i+1) (s::op.drop (ar p.k)) (out++[s])
def cI (doc:List Pc):List Int:=if (kO doc 0 [] []).2.length=1 then (kO doc 0 [] []).1 else []
def kS:Tr->Int
 | .leaf _=>0
 | .un p x=>if kS x > 4000\/p.n > 4000 then 4001 else p.n+kS x
 | .bin _ x y=>if kS x > kS y then kS x else kS y
def dO:Tr->Int
 | .leaf _=>0
 | .un p x=>dO x+p.n
 | .bin _ x y=>max (dO x) (dO y)
def dC (st:List Tr) (p:Pc):Option (List Tr):=
 if ar p.k=0 then some (.leaf p::st)
 else if ar p.k=1 then (match st with | x::r=>some (.un p x::r) | []=>none)
 else (match st with | y::x::r=>some (.bin p x y::r) | _=>none)
def bd:List Pc->List Tr->Option (List Tr)
 | [],st=>some st
 | p::ps,st=>(dC st p).bind (bd ps)
def Seg (doc:List Pc) (st:List Int):Tr->Nat->Nat->Prop
 | .leaf p,a,b=>b=a+1/\doc[a]?=some p/\ar p.k=0/\st[a]?=some (a:Int)
 | .un p x,a,b=>∃ m,b=m+1/\doc[m]?=some p/\ar p.k=1/\st[m]?=some (a:Int)/\Seg doc st x a m
 | .bin p x y,a,b=>∃ c m,b=m+1/\doc[m]?=some p/\ar p.k=2/\st[m]?=some (a:Int)/\Seg doc st x a c/\Seg doc st y c m
theorem Seg.lt {D st} : ∀ {T:Tr} {a b:Nat},Seg D st T a b->a<b
 | .leaf _,_,_,h=>by obtain ⟨h,_⟩:=h;omega
 | .un _ _,_,_,h=>by obtain ⟨m,h,_,_,_,A⟩:=h;have:=A.lt;omega
 | .bin _ _ _,_,_,h=>by obtain ⟨c,m,h,_,_,_,A,E⟩:=h;have:=A.lt;have:=E.lt;omega
theorem Seg.last {D st} : ∀ {T:Tr} {a b:Nat},Seg D st T a b->st[b - 1]?=some (a:Int)
 | .leaf _,_,_,h=>by obtain ⟨h,_,_,A⟩:=h;subst h;exact A
 | .un _ _,_,_,h=>by obtain ⟨m,h,_,_,A,E⟩:=h;subst h;exact A
 | .bin _ _ _,_,_,h=>by obtain ⟨c,m,h,_,_,A,E,F⟩:=h;subst h;exact A
theorem Seg.more {D st} (G:List Int):∀ {T:Tr} {a b:Nat},Seg D st T a b->Seg D (st++G) T a b
 | .leaf _,_,_,h=>by
   obtain ⟨h,E,F,A⟩:=h;exact ⟨h,E,F,by rw [getElem?_append_left (List.getElem?_eq_some_iff.1 A).1];exact A⟩
 | .un _ _,_,_,h=>by
   obtain ⟨m,h,E,F,A,H⟩:=h;exact ⟨m,h,E,F,by rw [getElem?_append_left (List.getElem?_eq_some_iff.1 A).1];exact A,H.more G⟩
 | .bin _ _ _,_,_,h=>by
   obtain ⟨c,m,h,E,F,A,H,I⟩:=h;exact ⟨c,m,h,E,F,by rw [getElem?_append_left (List.getElem?_eq_some_iff.1 A).1];exact A,H.more G,I.more G⟩
def Stk (doc:List Pc) (out:List Int):List Tr->List Int->Nat->Prop
 | [],op,e=>op=[]/\e=0
 | T::st,op,e=>∃ (m:Nat) (r:List Int),op=(m:Int)::r/\Seg doc out T m e/\Stk doc out st r m
theorem Stk.len {A D} : ∀ {st:List Tr} {op:List Int} {e:Nat},Stk A D st op e->op.length=st.length
 | [],_,_,h=>by rw [h.1];rfl
 | _::_,_,_,h=>by obtain ⟨m,r,rfl,_,E⟩:=h;simp [E.len]
theorem Stk.more {D A} (E:List Int):∀ {st:List Tr} {op:List Int} {e:Nat},Stk D A st op e->Stk D (A++E) st op e
 | [],_,_,h=>h
 | _::_,_,_,h=>by obtain ⟨m,r,rfl,F,G⟩:=h;exact ⟨m,r,rfl,F.more E,G.more E⟩
theorem aBp (k):ar k=0\/ar k=1\/ar k=2:=by
 unfold ar
 split
 .simp
 .split<;>simp
theorem aGS (E:List Pc):∀ (F A:List Pc) (op D:List Int) (st:List Tr),E=A++F->D.length=A.length->Stk E D st op A.length->
  ((kO F A.length op D).1.length=E.length/\∃ G,bd F st=some G/\Stk E (kO F A.length op D).1 G (kO F A.length op D).2 E.length)\/
  ((kO F A.length op D).1.length<E.length/\bd F st=none)
 | [],A,op,D,st,hd,ho,hs=>by
   simp only [append_nil] at hd;subst hd;exact .inl ⟨ho,st,rfl,hs⟩
 | p::F,A,op,D,st,hd,ho,hs=>by
   have J:=hs.len;have N:E[A.length]?=some p:=(by rw [hd];simp);have a4:E.length=A.length+(F.length+1):=(by rw [hd];simp);unfold kO
   by_cases Y:op.length<ar p.k
   .rw [if_pos Y];refine .inr ⟨by show D.length<_;omega,?_⟩;rcases aBp p.k with h | h | h
    .omega
    .have:st=[]:=by rw [<- length_eq_zero_iff];omega
     subst this;simp [bd,dC,h]
    .rcases st with _ | ⟨x,_ | ⟨y,r⟩⟩
     .simp [bd,dC,h]
     .simp [bd,dC,h]
     .simp only [length_cons] at J;omega
   .rw [if_neg Y];have I:(A++[p]).length=A.length+1:=by simp
    have key:∀ (s:Int) (H:List Tr),dC st p=some H->Stk E (D++[s]) H (s::op.drop (ar p.k)) (A.length+1)->
      ((kO F (A.length+1) (s::op.drop (ar p.k)) (D++[s])).1.length=E.length/\∃ G,bd (p::F) st=some G/\Stk E (kO F (A.length+1) (s::op.drop (ar p.k)) (D++[s])).1 G (kO F (A.length+1) (s::op.drop (ar p.k)) (D++[s])).2 E.length)\/
      ((kO F (A.length+1) (s::op.drop (ar p.k)) (D++[s])).1.length<E.length/\bd (p::F) st=none):=by
     intro s H h1 h2;have:=aGS E F (A++[p]) (s::op.drop (ar p.k)) (D++[s]) H (by rw [hd];simp) (by simp [ho]) (by rw [I];exact h2);rw [I] at this;simpa [bd,h1] using this
    rcases aBp p.k with h | h | h
    .simp only [h,if_true];have:=key (A.length:Int) (.leaf p::st) (by simp [dC,h]) ⟨A.length,_,rfl,⟨rfl,N,h,by rw [getElem?_append_right (by omega)];simp [ho]⟩,by rw [h];exact hs.more _⟩;simpa [h] using this
    .rcases st with _ | ⟨x,r⟩
     .simp only [length_nil] at J;omega
     .obtain ⟨m,Z,rfl,O,M⟩:=hs;have:=key (m:Int) (.un p x::r) (by simp [dC,h]) ⟨m,_,rfl,⟨A.length,rfl,N,h,by rw [getElem?_append_right (by omega)];simp [ho],O.more _⟩,by rw [h];exact M.more _⟩;simpa [h] using this
    .rcases st with _ | ⟨y,_ | ⟨x,r⟩⟩
     .simp only [length_nil] at J;omega
     .simp only [length_cons,length_nil] at J;omega
     .obtain ⟨m,Z,rfl,hy,S,a0,rfl,O,M⟩:=hs;have:=key (S:Int) (.bin p x y::r) (by simp [dC,h]) ⟨S,_,rfl,⟨m,A.length,rfl,N,h,by rw [getElem?_append_right (by omega)];simp [ho],O.more _,hy.more _⟩,by rw [h];exact M.more _⟩;simpa [h] using this
theorem yM (A:List Pc) (N:A≠[]) :
  ((cI A).length=A.length/\∃ T,bd A []=some [T]/\Seg A (cI A) T 0 A.length)\/((cI A).length≠A.length/\∀ T,bd A []≠some [T]):=by
 have Z:0<A.length:=length_pos_iff.2 N;have:=aGS A A [] [] [] [] (by simp) rfl ⟨rfl,rfl⟩;simp only [length_nil] at this;unfold cI;rcases this with ⟨I,H,F,G⟩ | ⟨I,F⟩
 .by_cases h:(kO A 0 [] []).2.length=1
  .rw [if_pos h];have E:=G.len;rcases H with _ | ⟨T,_ | ⟨y,r⟩⟩
   .simp only [length_nil] at E;omega
   .obtain ⟨m,Y,O,J,S,M⟩:=G;subst M;exact .inl ⟨I,T,F,J⟩
   .simp only [length_cons] at E;omega
  .rw [if_neg h];refine .inr ⟨by simp;omega,fun T D=>?_⟩;rw [F] at D;have:=G.len;simp at D;subst D;simp at this;omega
 .refine .inr ⟨?_,fun T D=>by rw [F] at D;cases D⟩
  split
  .omega
  .simp;omega
def eS (doc:List Pc):Bool:=
 decide (1<=doc.length/\doc.length<=40000)&&doc.all mX&&decide (cR doc<=100000)&&decide ((cI doc).length=doc.length)&&(match bd doc [] with | some [T]=>decide (kS T<=4000) | _=>false)
def bR (room:Int) (st:List (Tr × Int)) (p:Pc):Option (Int × List (Tr × Int)):=
 if (p.k≠1/\0<p.t.length)\/(p.k≠7/\p.n≠0) then none
 else if p.k=1 then (if room<p.t.length then none else if aF p.t<0\/p.t.contains 10=true then none else some (room - p.t.length,(.leaf p,0)::st))
 else if p.k=0\/p.k=2\/p.k=3\/p.k=4\/p.k=5 then some (room,(.leaf p,0)::st)
 else if p.k=6\/p.k=9 then (match st with | (y,ny)::(x,nx)::r=>some (room,(.bin p x y,max nx ny)::r) | _=>none)
 else if p.k=7\/p.k=8 then (match st with | (x,nx)::r=>if p.n<0\/4000 - nx<p.n then none else some (room,(.un p x,nx+p.n)::r) | _=>none)
 else none
def jX:List Pc->Int->List (Tr × Int)->Option (List (Tr × Int))
 | [],_,st=>some st
 | p::ps,room,st=>(bR room st p).bind fun (r,s)=>jX ps r s
def aEz (st:List (Tr × Int)):Prop:=∀ x∈st,x.2=dO x.1/\0<=x.2/\x.2<=4000
def okN:Tr->Prop
 | .leaf _=>True
 | .un p x=>0<=p.n/\okN x
 | .bin _ x y=>okN x/\okN y
theorem pB:∀ (T:Tr),okN T->0<=dO T
 | .leaf _,_=>by simp [dO]
 | .un p x,h=>by have:=pB x h.2;have:=h.1;simp only [dO];omega
 | .bin _ x y,h=>by have:=pB x h.1;simp only [dO];omega
theorem tD:∀ (T:Tr),okN T->(dO T<=4000/\kS T=dO T)\/(4000<dO T/\4000<kS T)
 | .leaf _,_=>by simp [dO,kS]
 | .un p x,h=>by
   have D:=tD x h.2;have A:=pB x h.2;have:=h.1;simp only [dO,kS]
   split<;>omega
 | .bin _ x y,h=>by
   have D:=tD x h.1;have A:=tD y h.2;simp only [dO,kS]
   split<;>omega
theorem aDd:∀ (E:List Pc) (st r:List Tr),E.all mX=true->(∀ x∈st,okN x)->bd E st=some r->∀ x∈r,okN x
 | [],st,r,_,hs,h=>by simp [bd] at h;subst h;exact hs
 | p::E,st,r,ha,hs,h=>by
   simp only [all_cons,Bool.and_eq_true] at ha;simp only [bd] at h;obtain ⟨G,D,H⟩:=Option.bind_eq_some_iff.1 h;refine aDd E G r ha.2 ?_ H
   have F:0<=p.n:=by
    have:=ha.1;simp only [mX,Bool.and_eq_true] at this;have:=this.2
    split at this<;>simp at this<;>omega
   unfold dC at D
   split at D
   .cases D;intro x A;rcases mem_cons.1 A with rfl | A
    .trivial
    .exact hs x A
   .split at D
    .split at D
     .cases D;intro x A;rcases mem_cons.1 A with rfl | A
      .exact ⟨F,hs _ (by simp)⟩
      .exact hs x (by simp [A])
     .cases D
    .split at D
     .cases D;intro x A;rcases mem_cons.1 A with rfl | A
      .exact ⟨hs _ (by simp),hs _ (by simp)⟩
      .exact hs x (by simp [A])
     .cases D
theorem aGN:∀ (E:List Pc) (st r:List Tr),E.all mX=true->(∃ x∈st,4000<dO x)->bd E st=some r->∃ x∈r,4000<dO x
 | [],st,r,_,hs,h=>by simp [bd] at h;subst h;exact hs
 | p::E,st,r,ha,hs,h=>by
   simp only [all_cons,Bool.and_eq_true] at ha;simp only [bd] at h;obtain ⟨G,A,H⟩:=Option.bind_eq_some_iff.1 h;refine aGN E G r ha.2 ?_ H
   have I:0<=p.n:=by
    have:=ha.1;simp only [mX,Bool.and_eq_true] at this;have:=this.2
    split at this<;>simp at this<;>omega
   obtain ⟨x,D,F⟩:=hs;unfold dC at A
   split at A
   .cases A;exact ⟨x,by simp [D],F⟩
   .split at A
    .split at A
     .cases A;rcases mem_cons.1 D with rfl | D
      .exact ⟨_,mem_cons_self ..,by simp only [dO];omega⟩
      .exact ⟨x,by simp [D],F⟩
     .cases A
    .split at A
     .cases A;rcases mem_cons.1 D with rfl | D
      .exact ⟨_,mem_cons_self ..,by simp only [dO];omega⟩
      .rcases mem_cons.1 D with rfl | D
       .exact ⟨_,mem_cons_self ..,by simp only [dO];omega⟩
       .exact ⟨x,by simp [D],F⟩
     .cases A
theorem fR (p):mX p=true ↔ (0<=p.k/\p.k<=9)/\(p.k=1->p.t.contains 10=false/\0<=aF p.t)/\(p.k≠1->p.t.length=0)/\(p.k=7->0<=p.n)/\(p.k≠7->p.n=0):=by
 unfold mX
 by_cases A:p.k=1<;>by_cases h:p.k=7<;>simp [A,h]<;>grind
theorem aCL (A:Int) (st p) (hr:0<=A) (M:aEz st) :
  (∃ s,bR A st p=some (A - p.t.length,s)/\mX p=true/\(p.t.length:Int)<=A/\dC (st.map (·.1)) p=some (s.map (·.1))/\aEz s)\/
  (bR A st p=none/\(mX p=false\/A<p.t.length\/dC (st.map (·.1)) p=none\/∃ s,dC (st.map (·.1)) p=some s/\∃ x∈s,4000<dO x)):=by
 by_cases Y:(p.k≠1/\0<p.t.length)\/(p.k≠7/\p.n≠0)
 .refine .inr ⟨by unfold bR;rw [if_pos Y],.inl ?_⟩;rw [<- Bool.not_eq_true,fR];intro h;rcases Y with H | H
  .have:=h.2.2.1 H.1;omega
  .exact H.2 (h.2.2.2.2 H.1)
 .have E:p.k≠1->p.t.length=0:=fun h=>by omega
  have F:p.k≠7->p.n=0:=fun h=>by omega
  unfold bR;rw [if_neg Y]
  by_cases N:p.k=1
  .rw [if_pos N]
   by_cases Z:A<p.t.length
   .rw [if_pos Z];exact .inr ⟨rfl,.inr (.inl Z)⟩
   .rw [if_neg Z]
    by_cases G:aF p.t<0\/p.t.contains 10=true
    .rw [if_pos G];refine .inr ⟨rfl,.inl ?_⟩;rw [<- Bool.not_eq_true,fR];intro h;have:=h.2.1 N;rcases G with G | G
     .omega
     .rw [this.1] at G;cases G
    .rw [if_neg G];refine .inl ⟨_,rfl,?_,by omega,by simp [dC,ar,N],?_⟩
     .rw [fR];refine ⟨by omega,fun _=>⟨?_,by omega⟩,E,by omega,F⟩;cases h:p.t.contains 10
      .rfl
      .exact absurd (.inr h) G
     .intro x J;rcases mem_cons.1 J with rfl | J
      .simp [dO]
      .exact M x J
  .have ht:=E N;rw [if_neg N]
   by_cases hL:p.k=0\/p.k=2\/p.k=3\/p.k=4\/p.k=5
   .rw [if_pos hL];refine .inl ⟨_,by rw [ht];simp;rfl,?_,by omega,?_,?_⟩
    .rw [fR];exact ⟨by omega,by omega,E,by omega,F⟩
    .have:ar p.k=0:=by unfold ar;rw [if_neg (by omega),if_neg (by omega)]
     simp [dC,this]
    .intro x J;rcases mem_cons.1 J with rfl | J
     .simp [dO]
     .exact M x J
   .rw [if_neg hL]
    by_cases O:p.k=6\/p.k=9
    .rw [if_pos O];have D:ar p.k=2:=(by unfold ar;rw [if_pos O]);have S:mX p=true:=(by rw [fR];exact ⟨by omega,by omega,E,by omega,F⟩);rcases st with _ | ⟨⟨y,ny⟩,_ | ⟨⟨x,nx⟩,r⟩⟩
     .exact .inr ⟨rfl,.inr (.inr (.inl (by simp [dC,D])))⟩
     .exact .inr ⟨rfl,.inr (.inr (.inl (by simp [dC,D])))⟩
     .refine .inl ⟨_,by rw [ht];simp;rfl,S,by omega,by simp [dC,D],?_⟩;intro z I;rcases mem_cons.1 I with rfl | I
      .have H:=M (x,nx) (by simp);have h2:=M (y,ny) (by simp);simp only [dO] at H h2 ⊢;omega
      .exact M z (by simp [I])
    .rw [if_neg O]
     by_cases hU:p.k=7\/p.k=8
     .rw [if_pos hU];have D:ar p.k=1:=(by unfold ar;rw [if_neg O,if_pos hU]);rcases st with _ | ⟨⟨x,nx⟩,r⟩
      .exact .inr ⟨rfl,.inr (.inr (.inl (by simp [dC,D])))⟩
      .have H:=M (x,nx) (by simp);simp only at H
       by_cases hN:p.n<0\/4000 - nx<p.n
       .simp only [if_pos hN];refine .inr ⟨trivial,?_⟩
        by_cases hn:p.n<0
        .refine .inl ?_;rw [<- Bool.not_eq_true,fR];intro h
         by_cases k7:p.k=7
         .have:=h.2.2.2.1 k7;omega
         .have:=h.2.2.2.2 k7;omega
        .exact .inr (.inr (.inr ⟨.un p x::r.map (·.1),by simp [dC,D],.un p x,by simp,by simp only [dO];omega⟩))
       .simp only [if_neg hN];refine .inl ⟨_,by rw [ht];simp;rfl,?_,by omega,by simp [dC,D],?_⟩
        .rw [fR];exact ⟨by omega,by omega,E,by omega,F⟩
        .intro z I;rcases mem_cons.1 I with rfl | I
         .simp only [dO];omega
         .exact M z (by simp [I])
     .rw [if_neg hU];refine .inr ⟨rfl,.inl ?_⟩;rw [<- Bool.not_eq_true,fR];intro h;omega
theorem aLF:∀ (D:List Pc) (A:Int) (st:List (Tr × Int)),0<=A->aEz st->
  (∃ s,jX D A st=some s/\D.all mX=true/\cR D<=A/\bd D (st.map (·.1))=some (s.map (·.1))/\aEz s)\/
  (jX D A st=none/\(D.all mX=false\/A<cR D\/bd D (st.map (·.1))=none\/∃ s,bd D (st.map (·.1))=some s/\∃ x∈s,4000<dO x))
 | [],A,st,hr,hg=>.inl ⟨st,rfl,rfl,by simp [cR];exact hr,rfl,hg⟩
 | p::D,A,st,hr,hg=>by
   have E:∀ F:List Pc,0<=cR F:=by
    intro F
    induction F with
    | nil=>simp [cR]
    | cons q F ih=>simp only [cR];omega
   have S:=E D;rcases aCL A st p hr hg with ⟨s,I,J,h3,h4,N⟩ | ⟨I,J⟩
   .have ih:=aLF D (A - p.t.length) s (by omega) N;simp only [jX,I,Option.bind_some,bd,h4,all_cons,J,Bool.true_and,cR];rcases ih with ⟨s2,G,M,i3,O,Y⟩ | ⟨G,M⟩
    .exact .inl ⟨s2,G,M,by omega,O,Y⟩
    .refine .inr ⟨G,?_⟩;rcases M with i | i | i | i
     .exact .inl i
     .exact .inr (.inl (by omega))
     .exact .inr (.inr (.inl i))
     .exact .inr (.inr (.inr i))
   .simp only [jX,I,Option.bind_none,bd,all_cons,cR];refine .inr ⟨trivial,?_⟩;rcases J with h | h | h | ⟨s,h,Z⟩
    .exact .inl (by rw [h];rfl)
    .exact .inr (.inl (by omega))
    .exact .inr (.inr (.inl (by rw [h];rfl)))
    .by_cases H:D.all mX=true
     .rw [h,Option.bind_some];cases hb:bd D s with
      | none=>exact .inr (.inr (.inl rfl))
      | some r=>exact .inr (.inr (.inr ⟨r,rfl,aGN D s r H Z hb⟩))
     .exact .inl (by simp [Bool.not_eq_true] at H ⊢;exact fun _=>H)
theorem aAj (A) :
  (eS A=true/\A.length<=40000/\∃ T n,bd A []=some [T]/\jX A 100000 []=some [(T,n)]/\Seg A (cI A) T 0 A.length)\/
  (eS A=false/\(40000<A.length\/jX A 100000 []=none\/∃ s,jX A 100000 []=some s/\s.length≠1)):=by
 by_cases Y:A=[]
 .subst Y;exact .inr ⟨rfl,.inr (.inr ⟨[],rfl,by simp⟩)⟩
 have H:1<=A.length:=length_pos_iff.2 Y
 by_cases Z:A.length<=40000
 .have O:=yM A Y;rcases aLF A 100000 [] (by omega) (fun x D=>by cases D) with ⟨s,I,J,h3,F,h5⟩ | ⟨I,J⟩
  .rcases O with ⟨N,T,G,k3⟩ | ⟨N,G⟩
   .simp only [map_nil] at F;rw [G] at F;rcases s with _ | ⟨⟨M,n⟩,_ | ⟨y,r⟩⟩
    .simp at F
    .simp at F;subst F;refine .inl ⟨?_,Z,T,n,G,I,k3⟩;have E:=aDd A [] [T] J (fun x D=>by cases D) G T (by simp);have hn:=h5 (T,n) (by simp);simp only at hn;have:=tD T E;simp only [eS,N,G,J,H,Z,h3];simp;omega
    .simp at F
   .refine .inr ⟨by simp [eS,N],.inr (.inr ⟨s,I,fun hs=>?_⟩)⟩;rcases s with _ | ⟨⟨M,n⟩,_ | ⟨y,r⟩⟩
    .simp at hs
    .exact G M (by simpa using F)
    .simp at hs
  .refine .inr ⟨?_,.inr (.inl I)⟩;rcases J with h | h | h | ⟨s,h,x,D,a5⟩
   .simp [eS,h]
   .simp only [eS];have:¬ (cR A<=100000):=by omega
    simp [this]
   .simp only [map_nil] at h;simp [eS,h]
   .simp only [map_nil] at h
    by_cases S:A.all mX=true
    .have E:=aDd A [] s S (fun x D=>by cases D) h;rcases s with _ | ⟨M,_ | ⟨y,r⟩⟩
     .simp [eS,h]
     .simp at D;subst D;have:=tD x (E x (by simp));have h6:¬ (kS x<=4000):=(by omega);simp [eS,h,h6]
     .simp [eS,h]
    .simp only [Bool.not_eq_true] at S;simp [eS,S]
 .refine .inr ⟨?_,.inl (by omega)⟩;simp only [eS];have:¬ (1<=A.length/\A.length<=40000):=by omega
  simp [this]
def sz:Tr->Nat
 | .leaf p=>p.t.length+1
 | .un p x=>p.t.length+1+sz x
 | .bin p x y=>p.t.length+1+(sz x+sz y)
def szs:List Tr->Nat
 | []=>0
 | x::r=>sz x+szs r
theorem aGr:∀ (D:List Pc) (st r:List Tr),bd D st=some r->(szs r:Int)=szs st+cR D+D.length
 | [],st,r,h=>by simp [bd] at h;subst h;simp [cR]
 | p::D,st,r,h=>by
   simp only [bd] at h;obtain ⟨E,A,F⟩:=Option.bind_eq_some_iff.1 h;have ih:=aGr D E r F
   have:(szs E:Int)=szs st+p.t.length+1:=by
    unfold dC at A
    split at A
    .cases A;simp only [szs,sz];omega
    .split at A
     .split at A
      .cases A;simp only [szs,sz];omega
      .cases A
     .split at A
      .cases A;simp only [szs,sz];omega
      .cases A
   simp only [cR,length_cons];omega
theorem aLw (A) (h:eS A=true) (T:Tr) (D:bd A []=some [T]):sz T<=140000:=by
 have:=aGr A [] [T] D;simp only [eS,Bool.and_eq_true,decide_eq_true_eq] at h;simp only [szs] at this;omega
def aD:Tr->List Int->Option (List Int)
 | .leaf p,out=>if p.k=0\/p.k=3 then some out else if p.k=1 then some (out++p.t) else if p.k=2 then some (out++[32]) else none
 | .un _ x,out=>aD x out
 | .bin p x y,out=>if p.k=6 then (aD x out).bind (aD y) else aD y out
theorem kB:∀ (T:Tr) (A o:List Int),aD T A=some o->o.length<=A.length+sz T
 | .leaf p,A,o,h=>by
   unfold aD at h;simp only [sz]
   split at h
   .cases h;omega
   .split at h
    .cases h;simp
    .split at h
     .cases h;simp
     .cases h
 | .un p x,A,o,h=>by have:=kB x A o h;simp only [sz];omega
 | .bin p x y,A,o,h=>by
   unfold aD at h;simp only [sz]
   split at h
   .obtain ⟨D,F,E⟩:=Option.bind_eq_some_iff.1 h;have:=kB x A D F;have:=kB y D o E;omega
   .have:=kB y A o h;omega
def leadT:Tr->Int × Bool
 | .leaf p=>if p.k=0 then (0,false) else if p.k=1 then (aF p.t,false) else (0,true)
 | .un _ x=>leadT x
 | .bin p x y=>if p.k=9\/(leadT x).2=true then leadT x else ((leadT x).1+(leadT y).1,(leadT y).2)
theorem mI (h:∀ t,-1<=aF t/\aF t<=t.length):∀ (T:Tr),-(sz T:Int)<=(leadT T).1/\(leadT T).1<=sz T
 | .leaf p=>by
   have:=h p.t;unfold leadT;simp only [sz]
   split
   .simp;omega
   .split
    .simp;omega
    .simp;omega
 | .un p x=>by have:=mI h x;simp only [sz,leadT];omega
 | .bin p x y=>by
   have:=mI h x;have:=mI h y;unfold leadT;simp only [sz]
   split
   .omega
   .simp only;omega
theorem ar2 {k} (h:ar k=2):k=6\/k=9:=by
 unfold ar at h
 split at h
 .assumption
 .split at h<;>cases h
theorem ar1 {k} (h:ar k=1):k=7\/k=8:=by
 unfold ar at h
 split at h
 .cases h
 .split at h
  .assumption
  .cases h
open Go.RowKit
theorem sL (w:World) (a u):w.grownBy (w.setCell a u) (some a.block):=
 ⟨rfl,rfl,rfl,by simp,fun k _ h=>heap_setCell_other w a k u (fun e=>h (by simp [e]))⟩
theorem dP {B} {w:World} {e A n v D} (h:w.ownsRow B e A v n D) (a:Addr) (u) (E:v.ownBlock≠some a.block):(w.setCell a u).ownsRow B e A v n D:=
 ownsRow.kept h (sL w a u) (.inr E)
theorem uA {W:World} {A a} {v:Value} (D:W.grownBy A none) (h:W.cell? a=some v) (E:W.frozen? a=false):A.cell? a=some v/\A.frozen? a=false:=
 ⟨D.cell h (by simp),(frozen?_of_block (D.block a.block (block_lt_of_cell? W a h) (by simp))).trans E⟩
structure aIJ (B:Nat) (w:World) (b o:Nat) (p:Pc) (tv:Value):Prop where
 k:w.cell? ⟨b,o,none⟩=some (.int .i64 p.k)
 t:w.cell? ⟨b,o+1,none⟩=some tv
 n:w.cell? ⟨b,o+2,none⟩=some (.int .i64 p.n)
 rd:RdB B w tv p.t
 sl:Sl tv p.t.length
def RdP (B:Nat) (w:World) (v:Value) (doc:List Pc):Prop:=
 ∃ a cap,v=.slice a doc.length cap/\doc.length<=cap/\cap<=maxLen/\(doc≠[]->∃ b off,a=some ⟨b,off,none⟩/\b<B/\∀ j p,doc[j]?=some p->∃ tv,aIJ B w b (off+j*3) p tv)
theorem aIJ.beside {B w G b o p F A} (h:aIJ B w b o p F) (I:b<B) (D:w.grownBy G A) (H:∀ k,A=some k->B<=k):aIJ B G b o p F:=
 have E:some b≠A:=fun e=>by have:=H b e.symm;omega
 ⟨D.cell h.k E,D.cell h.t E,D.cell h.n E,h.rd.beside D H,h.sl⟩
theorem RdP.beside {B w G v A D} (h:RdP B w v A) (J:w.grownBy G D) (hr:∀ k,D=some k->B<=k):RdP B G v A:=by
 obtain ⟨a,E,M,Z,S,hh⟩:=h;refine ⟨a,E,M,Z,S,fun h0=>?_⟩;obtain ⟨b,F,O,H,I⟩:=hh h0;refine ⟨b,F,O,H,fun j p N=>?_⟩;obtain ⟨Y,ht⟩:=I j p N;exact ⟨Y,ht.beside H J hr⟩
theorem RdP.K {B w w' v A} (h:RdP B w v A) (D:w.grownBy w' none):RdP B w' v A:=h.beside D (fun _ e=>by cases e)
theorem Rd.wide {q B} {E:Nat} {w v F} (h:Rd q B w v F) (N:B<=E):Rd q E w v F:=by
 obtain ⟨a,A,H,M⟩:=h;refine ⟨a,A,H,fun J=>?_⟩;obtain ⟨b,D,I,O,G⟩:=M J;exact ⟨b,D,I,by omega,G⟩
theorem RdP.wide {B} {G:Nat} {w v A} (h:RdP B w v A) (Y:B<=G):RdP G w v A:=by
 obtain ⟨a,E,I,S,N,hh⟩:=h;refine ⟨a,E,I,S,N,fun Z=>?_⟩;obtain ⟨b,F,M,hb,H⟩:=hh Z;refine ⟨b,F,M,by omega,fun j p J=>?_⟩;obtain ⟨O,D⟩:=H j p J;exact ⟨O,⟨D.k,D.t,D.n,D.rd.wide Y,D.sl⟩⟩
theorem RdP.at {B w v A} (h:RdP B w v A) (j:Nat) (F:j<A.length) :
  ∃ b D E G,v=.slice (some ⟨b,D,none⟩) A.length E/\b<B/\aIJ B w b (D+j*3) A[j] G:=by
 obtain ⟨a,E,I,S,Y,O⟩:=h;obtain ⟨b,D,J,N,H⟩:=O (fun e=>by rw [e] at F;simp at F);obtain ⟨G,M⟩:=H j A[j] (by simp [F]);exact ⟨b,D,E,G,by rw [I,J],N,M⟩
end Go.Proofs.YtckcaefnokeodaaGreatDoor
