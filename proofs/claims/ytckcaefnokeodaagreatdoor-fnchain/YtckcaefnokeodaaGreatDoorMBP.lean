import Derived.RegionTactic
import Derived.ChangeAlike
import Derived.BigRegion
import Derived.Test.YtckcaefnokeodaaGreatDoorMAX
import Derived.Test.YtckcaefnokeodaaGreatDoorMAY
set_option maxHeartbeats 16000000
set_option maxRecDepth 100000
namespace Go.Proofs.YtckcaefnokeodaaGreatDoor
open Go.Proofs.Tryz List World
def aFl (g:Nat) (its:List iF):Prop:=∀ s∈its,g<s.n\/s.n+aP s.T<=g
def aGe:List iF->Prop
 | []=>True
 | it::r=>(∀ s∈r,it.n+aP it.T<=s.n)/\aGe r
theorem xR {g} {D:iF} {r:List iF} (h:aFl g (D::r)):aFl g r:=fun s A=>h s (mem_cons_of_mem _ A)
theorem lG {g:Nat} {A:iF} {r} (h:g<A.n\/A.n+aP A.T<=g) (E:aFl g r):aFl g (A::r):=fun s D=>by
 rcases mem_cons.1 D with rfl | D
 .exact h
 .exact E s D
theorem oX {g:Nat} : ∀ (T:Tr) (n:Nat) (A:List Int),(g<n\/n+aP T<=g)->(jE T n A)[g]?=A[g]?
 | .leaf _,_,_,_=>rfl
 | .un p x,n,A,h=>by
   simp only [jE,aP] at h ⊢;rw [oX x n _ (by split at h<;>omega)]
   split
   .rename_i hk
    rw [if_pos hk] at h;rw [getElem?_set_ne (by omega)]
   .rfl
 | .bin p x y,n,A,h=>by
   simp only [jE,aP] at h ⊢;rw [oX y (n+aP x) _ (by omega)]
   split
   .exact oX x n A (by omega)
   .rfl
theorem jQ {N g} : ∀ (f:Nat) (O:List iF) (H F:List Int) (I:Int) (r:List Int × List Int),aFl g O->(∀ s∈O,KOk s.T)->lay N none f O H F I=some r->r.2[g]?=F[g]?
 | 0,_,_,_,_,_,_,_,h=>by simp [lay] at h
 | f+1,[],H,F,I,r,_,_,h=>by simp only [lay,Option.some.injEq] at h;subst h;rfl
 | f+1,⟨.leaf p,n,ind⟩::rest,H,F,I,r,ho,hk,h=>by
   have A:=xR ho;have D:∀ s∈rest,KOk s.T:=fun s E=>hk s (mem_cons_of_mem _ E);simp only [lay] at h
   split at h
   .exact jQ f _ _ _ _ _ A D h
   .split at h
    .exact jQ f _ _ _ _ _ A D h
    .split at h
     .exact jQ f _ _ _ _ _ A D h
     .exact jQ f _ _ _ _ _ A D h
 | f+1,⟨.bin p x y,n,ind⟩::rest,H,F,I,r,ho,hk,h=>by
   have A:=xR ho;have S:=ho ⟨.bin p x y,n,ind⟩ (by simp);have G:KOk (.bin p x y):=hk ⟨.bin p x y,n,ind⟩ (by simp);have D:∀ s∈rest,KOk s.T:=fun s E=>hk s (mem_cons_of_mem _ E);simp only [aP] at S;simp only [lay] at h
   split at h
   .refine jQ f _ _ _ _ _ (lG (by simp only;omega) (lG (by simp only;omega) A)) (fun s E=>?_) h;rcases mem_cons.1 E with rfl | E
    .exact G.2.1
    .rcases mem_cons.1 E with rfl | E
     .exact G.2.2
     .exact D s E
   .refine jQ f _ _ _ _ _ (lG (by simp only;omega) A) (fun s E=>?_) h;rcases mem_cons.1 E with rfl | E
    .exact G.2.1
    .exact D s E
 | f+1,⟨.un p x,n,ind⟩::rest,H,F,I,r,ho,hk,h=>by
   have A:=xR ho;have S:=ho ⟨.un p x,n,ind⟩ (by simp);have G:KOk (.un p x):=hk ⟨.un p x,n,ind⟩ (by simp);have D:∀ s∈rest,KOk s.T:=fun s E=>hk s (mem_cons_of_mem _ E)
   have M:∀ i:Int,∀ s∈(⟨x,n,i⟩:iF)::rest,KOk s.T:=fun i s E=>by
    rcases mem_cons.1 E with rfl | E
    .exact G.2
    .exact D s E
   have Y:=S;simp only [aP] at S;simp only [lay] at h
   by_cases h7:p.k=7
   .rw [if_pos h7] at h;exact jQ f _ _ _ _ _ (lG (by simp only;split at S<;>omega) A) (M _) h
   .have h8:p.k=8:=(by have:=G.1;omega);rw [if_pos h8] at S;rw [if_neg h7] at h;have J:∀ v:Int,(F.set (n+aP x) v)[g]?=F[g]?:=fun v=>getElem?_set_ne (by omega);cases Z:aD x [] with
    | none=>
      rw [Z] at h;rw [jQ f _ _ _ _ _ (lG (by simp only;omega) A) (M _) h,J]
    | some text=>
      rw [Z] at h;simp only at h
      split at h
      .rw [jQ f _ _ _ _ _ A D h,oX _ _ _ Y]
      .rw [jQ f _ _ _ _ _ (lG (by simp only;omega) A) (M _) h,J]
theorem eT {F} : ∀ (f:Nat) (G:List iF) (D A:List Int) (E:Int) (r:List Int × List Int),lay F none f G D A E=some r->r.2.length=A.length
 | 0,_,_,_,_,_,h=>by simp [lay] at h
 | f+1,[],D,A,E,r,h=>by simp only [lay,Option.some.injEq] at h;subst h;rfl
 | f+1,⟨.leaf p,n,ind⟩::rest,D,A,E,r,h=>by
   simp only [lay] at h
   split at h
   .exact eT f _ _ _ _ _ h
   .split at h
    .exact eT f _ _ _ _ _ h
    .split at h
     .exact eT f _ _ _ _ _ h
     .exact eT f _ _ _ _ _ h
 | f+1,⟨.bin p x y,n,ind⟩::rest,D,A,E,r,h=>by
   simp only [lay] at h
   split at h
   .exact eT f _ _ _ _ _ h
   .exact eT f _ _ _ _ _ h
 | f+1,⟨.un p x,n,ind⟩::rest,D,A,E,r,h=>by
   simp only [lay] at h
   split at h
   .exact eT f _ _ _ _ _ h
   .cases H:aD x [] with
    | none=>
      rw [H] at h;have:=eT f _ _ _ _ _ h;simpa using this
    | some text=>
      rw [H] at h;simp only at h
      split at h
      .have:=eT f _ _ _ _ _ h;rw [kD] at this;exact this
      .have:=eT f _ _ _ _ _ h;simpa using this
theorem gZ {Y w2} : ∀ (f:Nat) (O:List iF) (H D:List Int) (S G:Int) (r:List Int × List Int),aGe O->(∀ s∈O,KOk s.T)->(∀ s∈O,s.n+aP s.T<=D.length)->lay Y none f O H D S=some r->lay w2 (some r.2) f O H D G=some r
 | 0,_,_,_,_,_,_,_,_,_,h=>by simp [lay] at h
 | f+1,[],H,D,S,G,r,_,_,_,h=>by simpa only [lay] using h
 | f+1,⟨.leaf p,n,ind⟩::rest,H,D,S,G,r,ho,hk,hl,h=>by
   have E:∀ s∈rest,KOk s.T:=fun s A=>hk s (mem_cons_of_mem _ A);have F:∀ s∈rest,s.n+aP s.T<=D.length:=fun s A=>hl s (mem_cons_of_mem _ A);simp only [lay] at h ⊢
   split at h
   .rename_i c1;rw [if_pos c1];exact gZ f _ _ _ _ _ _ ho.2 E F h
   .rename_i c1;rw [if_neg c1]
    split at h
    .rename_i c2;rw [if_pos c2];exact gZ f _ _ _ _ _ _ ho.2 E F h
    .rename_i c2;rw [if_neg c2]
     split at h
     .rename_i c3;rw [if_pos c3];exact gZ f _ _ _ _ _ _ ho.2 E F h
     .rename_i c3;rw [if_neg c3];exact gZ f _ _ _ _ _ _ ho.2 E F h
 | f+1,⟨.bin p x y,n,ind⟩::rest,H,D,S,G,r,ho,hk,hl,h=>by
   have J:KOk (.bin p x y):=hk ⟨.bin p x y,n,ind⟩ (by simp);have N:=hl ⟨.bin p x y,n,ind⟩ (by simp);have E:∀ s∈rest,KOk s.T:=fun s A=>hk s (mem_cons_of_mem _ A);have F:∀ s∈rest,s.n+aP s.T<=D.length:=fun s A=>hl s (mem_cons_of_mem _ A);simp only [aP] at N;have I:∀ s∈rest,n+(aP x+aP y)<=s.n:=ho.1;simp only [lay] at h ⊢
   split at h
   .rename_i c1
    rw [if_pos c1];refine gZ f _ _ _ _ _ _ ⟨fun s A=>?_,fun s A=>?_,ho.2⟩ (fun s A=>?_) (fun s A=>?_) h
    .rcases mem_cons.1 A with rfl | A
     .exact Nat.le_refl _
     .have:=I s A;simp only;omega
    .have:=I s A;simp only;omega
    .rcases mem_cons.1 A with rfl | A
     .exact J.2.1
     .rcases mem_cons.1 A with rfl | A
      .exact J.2.2
      .exact E s A
    .rcases mem_cons.1 A with rfl | A
     .simp only;omega
     .rcases mem_cons.1 A with rfl | A
      .simp only;omega
      .exact F s A
   .rename_i c1
    rw [if_neg c1];refine gZ f _ _ _ _ _ _ ⟨fun s A=>?_,ho.2⟩ (fun s A=>?_) (fun s A=>?_) h
    .have:=I s A;simp only;omega
    .rcases mem_cons.1 A with rfl | A
     .exact J.2.1
     .exact E s A
    .rcases mem_cons.1 A with rfl | A
     .simp only;omega
     .exact F s A
 | f+1,⟨.un p x,n,ind⟩::rest,H,D,S,G,r,ho,hk,hl,h=>by
   have J:KOk (.un p x):=hk ⟨.un p x,n,ind⟩ (by simp);have N:=hl ⟨.un p x,n,ind⟩ (by simp);have E:∀ s∈rest,KOk s.T:=fun s A=>hk s (mem_cons_of_mem _ A);have F:∀ s∈rest,s.n+aP s.T<=D.length:=fun s A=>hl s (mem_cons_of_mem _ A);have I:∀ s∈rest,n+(aP x+(if p.k=8 then 1 else 0))<=s.n:=ho.1
   have a0:∀ i:Int,∀ s∈(⟨x,n,i⟩:iF)::rest,KOk s.T:=fun i s A=>by
    rcases mem_cons.1 A with rfl | A
    .exact J.2
    .exact E s A
   have a3:∀ i:Int,aGe ((⟨x,n,i⟩:iF)::rest):=fun i=>⟨fun s A=>by have:=I s A;simp only;split at this<;>omega,ho.2⟩;simp only [aP] at N;simp only [lay] at h ⊢
   by_cases h7:p.k=7
   .rw [if_pos h7] at h ⊢;refine gZ f _ _ _ _ _ _ (a3 _) (a0 _) (fun s A=>?_) h;rcases mem_cons.1 A with rfl | A
    .simp only;split at N<;>omega
    .exact F s A
   .have h8:p.k=8:=(by have:=J.1;omega);rw [if_pos h8] at N;have a2:∀ s∈rest,n+(aP x+1)<=s.n:=fun s A=>by have:=I s A;rwa [if_pos h8] at this
    rw [if_neg h7] at h ⊢
    have Z:∀ c,lay Y none f (⟨x,n,ind⟩::rest) H (D.set (n+aP x) 2) c=some r->r.2[n+aP x]?.getD 0=2/\lay w2 (some r.2) f (⟨x,n,ind⟩::rest) H (D.set (n+aP x) 2) G=some r:=fun c hh=>by
     have M:aFl (n+aP x) (⟨x,n,ind⟩::rest):=lG (.inr (Nat.le_refl _)) (fun s A=>.inl (by have:=a2 s A;omega));have e:=jQ f _ _ _ _ _ M (a0 _) hh;refine ⟨by rw [e,getElem?_set_self (by omega)];rfl,gZ f _ _ _ _ _ _ (a3 _) (a0 _) (fun s A=>?_) hh⟩;rw [length_set];rcases mem_cons.1 A with rfl | A
     .simp only;omega
     .exact F s A
    cases hx:aD x [] with
    | none=>
      rw [hx] at h;obtain ⟨e1,e2⟩:=Z _ h;rw [e1];simpa using e2
    | some text=>
      rw [hx] at h;simp only at h
      split at h
      .have M:aFl (n+aP x) rest:=fun s A=>.inl (by have:=a2 s A;omega);have e:=jQ f _ _ _ _ _ M E h
       have e1:(jE (.un p x) n D)[n+aP x]?.getD 0=1:=by
        simp only [jE,if_pos h8];rw [oX x n _ (.inr (Nat.le_refl _)),getElem?_set_self (by omega)];rfl
       rw [e,e1];simp only [if_true];refine gZ f _ _ _ _ _ _ ho.2 E (fun s A=>?_) h;rw [kD];exact F s A
      .obtain ⟨e1,e2⟩:=Z _ h;rw [e1];simpa using e2
theorem aBZ {A G} {H I:List Int} (D:∀ T,bd A []=some [T]->KOk T/\aP T<=grp A A.length) (h:fL A G=some (H,I)):lW A I=some H:=by
 unfold fL at h
 split at h
 .rename_i hv
  cases F:bd A [] with
  | none=>rw [F] at h;cases h
  | some Ts=>
    rw [F] at h
    match Ts,F,h with
    | [T],F,h=>
      obtain ⟨J,M⟩:=D T F;have E:=eT _ _ _ _ _ _ h;have N:=gZ (w2:=0) _ _ _ _ _ 0 _ (show aGe [⟨T,0,0⟩] from ⟨fun s D=>by simp at D,trivial⟩) (fun s D=>by simp at D;subst D;exact J) (fun s D=>by simp at D;subst D;simpa using M) h;simp only [length_replicate] at E;unfold lW;rw [if_pos ⟨hv.1,E⟩,F];simp only;unfold iJ;rw [N];simp
    | [],F,h=>cases h
    | _::_::_,F,h=>cases h
 .cases h
section
open Go.RowKit
def TxO (B:Nat) (w:World) (tv:Value) (t:List Int):Prop:=
 (tv=.slice none 0 0/\t=[])\/∃ g cap,tv=.slice (some ⟨g,0,none⟩) t.length cap/\t.length<=cap/\cap<=maxLen/\B<=g/\g<w.heap.size/\∀ j,j<t.length->w.cell? ⟨g,j,none⟩=some (.int .u8 (t[j]?.getD 0))/\w.frozen? ⟨g,j,none⟩=false
theorem TxO.lt {B w A t} (h:TxO B w A t):∀ g,A.ownBlock=some g->B<=g/\g<w.heap.size:=by
 rcases h with ⟨rfl,_⟩ | ⟨g,D,rfl,_,_,F,E,_⟩
 .intro g e;cases e
 .intro k e;cases e;exact ⟨F,E⟩
theorem TxO.sl {B w A t} (h:TxO B w A t):Sl A t.length:=by
 rcases h with ⟨rfl,rfl⟩ | ⟨g,E,rfl,F,D,G,H,_⟩
 .exact ⟨none,0,rfl,Nat.le_refl _,by unfold maxLen;omega⟩
 .exact ⟨_,_,rfl,F,D⟩
theorem TxO.row {B w I r D t} (h:TxO B w D t) (g:w.grownBy I r) (O:∀ x,D.ownBlock=some x->r≠some x):TxO B I D t:=by
 rcases h with ⟨rfl,rfl⟩ | ⟨x,E,rfl,N,J,M,H,G⟩
 .exact .inl ⟨rfl,rfl⟩
 .have A:some x≠r:=fun e=>O x rfl e.symm;refine .inr ⟨x,E,rfl,N,J,M,Nat.lt_of_lt_of_le H g.size,fun j F=>⟨g.cell (G j F).1 A,?_⟩⟩;rw [frozen?_of_block (g.block x H A)];exact (G j F).2
theorem TxO.K {B w w' A t} (h:TxO B w A t) (g:w.grownBy w' none):TxO B w' A t:=h.row g (fun _ _ e=>by cases e)
theorem TxO.base {B} {B':Nat} {w D t} (h:TxO B w D t) (M:B'<=B):TxO B' w D t:=by
 rcases h with h | ⟨x,A,I,H,E,J,G,F⟩
 .exact .inl h
 .exact .inr ⟨x,A,I,H,E,by omega,G,F⟩
theorem TxO.nil (B w):TxO B w (.slice none 0 0) []:=.inl ⟨rfl,rfl⟩
theorem TxO.txR {B w D t} (h:TxO B w D t):TxR B w none D t:=by
 rcases h with ⟨rfl,rfl⟩ | ⟨g,A,rfl,J,F,H,I,G⟩
 .exact TxR.nil _ _ _
 .exact ⟨_,A,rfl,J,F,fun _=>⟨g,0,rfl,⟨H,I,by simp⟩,fun j E=>by rw [Nat.zero_add];exact (G j E).1⟩⟩
def Lat (tvs:List Value):Prop:=tvs.Pairwise (fun a b=>∀ g g',a.ownBlock=some g->b.ownBlock=some g'->g<g')
def DfR (H:Nat) (w:World) (v:Value) (ps:List Pc):Prop:=
 ∃ tvs:List Value,tvs.length=ps.length/\w.ownsRow H 88 3 v ps.length (mS ps tvs)/\(∀ (j:Nat) (p:Pc) (tv:Value),ps[j]?=some p->tvs[j]?=some tv->TxO H w tv p.t/\∀ g,tv.ownBlock=some g->v.ownBlock≠some g)/\Lat tvs
theorem DfR.lt {H w v D} (h:DfR H w v D):∀ k,v.ownBlock=some k->H<=k/\k<w.heap.size:=by
 obtain ⟨A,_,E,_⟩:=h;exact fun k e=>ownsRow.lt E k e
theorem DfR.nil (H w):DfR H w (.slice none 0 0) []:=⟨[],rfl,⟨by simp [mS],.inl ⟨rfl,rfl⟩⟩,fun j p A h=>by simp at h,Pairwise.nil⟩
theorem DfR.K {H w w' v I} (h:DfR H w v I) (g:w.grownBy w' none):DfR H w' v I:=by
 obtain ⟨A,N,M,F,J⟩:=h;exact ⟨A,N,ownsRow.kept M g (by cases v.ownBlock<;>simp),fun j p D E G=>⟨(F j p D E G).1.K g,(F j p D E G).2⟩,J⟩
theorem DfR.set {H w v J} (h:DfR H w v J) (b j:Nat) (x) (S:b<H):DfR H (w.setCell ⟨b,j,none⟩ x) v J:=by
 obtain ⟨G,O,I,E,M⟩:=h;have g:w.grownBy (w.setCell ⟨b,j,none⟩ x) (some b):=⟨rfl,rfl,rfl,by simp,fun i _ N=>Below.heap_setCell _ _ _ _ (fun e=>N (by rw [e]))⟩;exact ⟨G,O,ownsRow.kept I g (.inr (fun e=>by have:=(ownsRow.lt I b e).1;omega)),fun j p A D F=>⟨(E j p A D F).1.row g (fun y e h=>by cases h;have:=((E j p A D F).1.lt b e).1;omega),(E j p A D F).2⟩,M⟩
theorem DfR.sl {H w v D} (h:DfR H w v D):∃ a A,v=.slice a D.length A:=by
 obtain ⟨E,_,F,_⟩:=h;exact aBq F
theorem DfR.po {H w v J} (h:DfR H w v J):PoR H w v J:=by
 obtain ⟨A,hl,Y,ht,hp⟩:=h;refine ⟨_,Y,fun j p I=>?_⟩;have a3:=(List.getElem?_eq_some_iff.1 I).1;obtain ⟨D,E⟩:∃ D,A[j]?=some D:=⟨A[j]'(by omega),getElem?_eq_getElem (by omega)⟩;obtain ⟨S,Z,k3⟩:=vX J A j p D I E;obtain ⟨h1,h2⟩:=ht j p D I E;refine ⟨D,S,Z,k3,?_⟩;obtain ⟨a,F,e,c1,c2,c3⟩:=h1.txR;refine ⟨a,F,e,c1,c2,fun h0=>?_⟩;obtain ⟨b,G,N,M,O⟩:=c3 h0;exact ⟨b,G,N,⟨M.1,M.2.1,fun q=>h2 b (by rw [e,N];rfl) q.symm⟩,O⟩
theorem aB9:∀ (D:List Pc) (A:List Value) (p:Pc) (E:Value),A.length=D.length->mS (D++[p]) (A++[E])=mS D A++[.int .i64 p.k,E,.int .i64 p.n]
 | [],[],_,_,_=>rfl
 | _::D,_::A,p,E,h=>by simp only [length_cons,Nat.add_right_cancel_iff] at h;simp only [cons_append,mS,aB9 D A p E h,pcC,append_assoc]
 | [],_::_,_,_,h=>by simp at h
 | _::_,[],_,_,h=>by simp at h
theorem DfR.push {H Z w v E} (k n:Int) (I t) (hd:DfR H Z v E) (g:Z.grownBy w none) (ht:TxO Z.heap.size w I t) (hH:H<=Z.heap.size) (hn:E.length<=1000000) :
  ∃ Y w',(Builtin.append_ #[31,31] 31 #[v,.slice (some ⟨w.heap.size,0,none⟩) 1 1]).run prog (w.alloc (Obj.cells #[.int .i64 k,I,.int .i64 n] 88))=.ok Y w'/\DfR H w' Y (E++[⟨k,t,n⟩])/\w.grownBy w' v.ownBlock/\∃ a N,Y=.slice a (E.length+1) N:=by
 obtain ⟨i0,hi,b2,c7,b3⟩:=info_parts aJA;have gA:=grownBy_alloc w (Obj.cells #[.int .i64 k,I,.int .i64 n] 88) none;have b8:=grownBy_alloc w (Obj.cells #[.int .i64 k,I,.int .i64 n] 88) v.ownBlock;have hs:=g.size;obtain ⟨F,hl,ho,b1,hp⟩:=(hd.K g).K gA;have c3:(w.alloc (Obj.cells #[.int .i64 k,I,.int .i64 n] 88)).heap.size=w.heap.size+1:=by simp
 have S:∀ j u,([.int .i64 k,I,.int .i64 n]:List Value)[j]?=some u->(w.alloc (Obj.cells #[.int .i64 k,I,.int .i64 n] 88)).cell? ((⟨w.heap.size,0,none⟩:Addr).add j)=some u:=by
  intro j u A;rw [Addr.add_lit,Nat.zero_add]
  match j,A with
  | 0,A=>simp at A;subst A;simp [go_sem]
  | 1,A=>simp at A;subst A;simp [go_sem]
  | 2,A=>simp at A;subst A;simp [go_sem]
  | j+3,A=>simp at A
 obtain ⟨Y,w',a1,h1,h2,_,h4⟩:=run_append_own_at (P:=prog) (w.alloc (Obj.cells #[.int .i64 k,I,.int .i64 n] 88)) H 31 31 88 i0 (.agg #[.int .i64 0,.slice none 0 0,.int .i64 0]) 3 40 underlying31 hi b2 c7 b3 rfl (by decide) v E.length _ ho ⟨w.heap.size,0,none⟩ 1 1 _ rfl S
  (by intro x hx;simp at hx;rcases hx with rfl | rfl | rfl
      .rfl
      .exact oW ht.sl
      .rfl) (by unfold maxLen;omega) (by omega) (by omega)
 have a6:∀ D,(∃ (j:Nat) (p:Pc) (u:Value),E[j]?=some p/\F[j]?=some u/\u.ownBlock=some D)->D<Z.heap.size:=by
  rintro D ⟨j,p,u,A,O,hg⟩;obtain ⟨J,b4,d1,a4,d6⟩:=hd
  have:J=F:=by
   have e1:=ownsRow.kept (ownsRow.kept d1 g (by cases v.ownBlock<;>simp)) gA (by cases v.ownBlock<;>simp);apply ext_getElem?;intro i
   by_cases M:i<E.length
   .have k0:=vX E J i (E[i]) (J[i]'(by omega)) (by simp [M]) (by simp [b4,M]);have k1:=vX E F i (E[i]) (F[i]'(by omega)) (by simp [M]) (by simp [hl,M]);rcases ho.2 with ⟨hv,c4⟩ | ⟨x,N,b0,hv,_⟩
    .omega
    .have c0:=ownsRow.cellAt (hv ▸ e1) (i*3+1) (by omega);have c1:=ownsRow.cellAt (hv ▸ ho) (i*3+1) (by omega);rw [k0.2.1] at c0;rw [k1.2.1] at c1;rw [c0] at c1;simp only [Option.some.injEq] at c1;rw [getElem?_eq_getElem (by omega),getElem?_eq_getElem (by omega),c1]
   .rw [getElem?_eq_none (by omega),getElem?_eq_none (by omega)]
  subst this;exact ((a4 j p u A O).1.lt D hg).2
 have G:∀ D,I.ownBlock=some D->Z.heap.size<=D/\D<w.heap.size:=fun D e=>ht.lt D e
 have a2:∀ x,Y.ownBlock=some x->(v.ownBlock=some x\/x=w.heap.size+1):=fun x e=>by
  rcases h4 with h | h
  .exact .inl (by rw [<- h];exact e)
  .rw [h,c3] at e;cases e;exact .inr rfl
 refine ⟨Y,w',a1,⟨F++[I],by simp [hl],?_,?_,?_⟩,aA b8 h2,?_⟩
 .rw [aB9 E F _ _ hl,length_append];exact h1
 .intro j p u A O
  by_cases b5:j<E.length
  .rw [getElem?_append_left b5] at A;rw [getElem?_append_left (by omega)] at O;obtain ⟨q1,q2⟩:=b1 j p u A O;refine ⟨q1.row h2 (fun x e h=>q2 x e h),fun D e h=>?_⟩;rcases a2 D h with h' | h'
   .exact q2 D e h'
   .have:=a6 D ⟨j,p,u,A,O,e⟩;omega
  .have d0:j=E.length:=(by have:=(List.getElem?_eq_some_iff.1 A).1;simp at this;omega);subst d0;simp at A;rw [<- hl] at O;simp at O;subst A O;have q2:∀ x,I.ownBlock=some x->v.ownBlock≠some x:=fun x e h=>by have h1:=(hd.lt x h).2;have:=(G x e).1;omega
   refine ⟨((ht.base hH).K gA).row h2 (fun x e h=>q2 x e h),fun D e h=>?_⟩;rcases a2 D h with h' | h'
   .exact q2 D e h'
   .have:=(G D e).2;omega
 .unfold Lat;rw [pairwise_append];refine ⟨hp,by simp,?_⟩;intro a ha b hb g1 g2 e1 e2;simp at hb;subst hb;obtain ⟨j,A,b6⟩:=getElem_of_mem ha;have:=a6 g1 ⟨j,E[j]'(by omega),a,by simp [show j<E.length by omega],by rw [<- b6];simp [A],e1⟩;have:=(G g2 e2).1;omega
 .rcases h1.2 with ⟨hv,c4⟩ | ⟨x,N,b0,hv,_⟩
  .omega
  .exact ⟨_,N,hv⟩
def oO (s:List Pc × Bool) (p:Pc):List Pc × Bool:=if s.2=true\/s.1.length=40000\/100000 - cR s.1<p.t.length then (s.1,true) else (s.1++[p],false)
def iY (s:List Pc × Bool) (ps:List Pc):List Pc × Bool:=ps.foldl oO s
theorem sP (s) (a b:List Pc):iY s (a++b)=iY (iY s a) b:=by simp [iY]
structure iC (H:Nat) (w:World) (bd:Nat) (s:List Pc × Bool):Prop where
 v:∃ dv,w.cell? ⟨bd,0,none⟩=some dv/\DfR H w dv s.1
 r:w.cell? ⟨bd,1,none⟩=some (.int .i64 (100000 - cR s.1))
 f:w.cell? ⟨bd,2,none⟩=some (.bool s.2)
 fz:∀ j,w.frozen? ⟨bd,j,none⟩=false
 n:s.1.length<=40000
 sm:cR s.1<=100000
theorem iC.K {H w w' bd s} (h:iC H w bd s) (g:w.grownBy w' none):iC H w' bd s:=by
 obtain ⟨E,A,D⟩:=h.v;exact ⟨⟨E,g.cell A (by simp),D.K g⟩,g.cell h.r (by simp),g.cell h.f (by simp),fun j=>by rw [frozen?_of_block (g.block bd (block_lt_of_cell? w _ A) (by simp))];exact h.fz j,h.n,h.sm⟩
structure Frd (H bd:Nat) (w w':World):Prop where
 os:w'.os=w.os
 tape:w'.tape=w.tape
 output:w'.output=w.output
 size:w.heap.size<=w'.heap.size
 block:∀ k,k<H->k≠bd->w'.heap[k]?=w.heap[k]?
theorem Frd.refl (H bd w):Frd H bd w w:=⟨rfl,rfl,rfl,Nat.le_refl _,fun _ _ _=>rfl⟩
theorem Frd.trans {H bd a b c} (h:Frd H bd a b) (k:Frd H bd b c):Frd H bd a c:=
 ⟨k.os.trans h.os,k.tape.trans h.tape,k.output.trans h.output,Nat.le_trans h.size k.size,fun i A D=>(k.block i A D).trans (h.block i A D)⟩
theorem Frd.grown {H bd:Nat} {a:World} {b r} (g:a.grownBy b r) (E:H<=a.heap.size) (h:∀ x,r=some x->H<=x\/x=bd):Frd H bd a b:=
 ⟨g.os,g.tape,g.output,g.size,fun k A D=>g.block k (by omega) (fun e=>by have:=h k e.symm;omega)⟩
theorem Frd.set (H bd w) (j:Nat) (x):Frd H bd w (w.setCell ⟨bd,j,none⟩ x):=
 ⟨rfl,rfl,rfl,by simp,fun k _ h=>Below.heap_setCell _ _ _ _ (by simpa using h)⟩
end
section
open Go.RowKit
attribute [-go_sem] Builtin.append_
theorem aBE {a:World} {b} (g:a.grownBy b none) (c o:Nat) (x) (E:c<a.heap.size):(a.setCell ⟨c,o,none⟩ x).grownBy (b.setCell ⟨c,o,none⟩ x) none:=by
 refine ⟨g.os,g.tape,g.output,by simpa using g.size,fun k D _=>?_⟩;have A:k<a.heap.size:=(by simpa using D);have e:=g.block k A (by simp)
 by_cases h:k=c
 .subst h;unfold setCell;simp only [Array.getElem?_modify,if_true,e]
 .rw [Below.heap_setCell _ _ _ _ (by simpa using h),Below.heap_setCell _ _ _ _ (by simpa using h)];exact e
theorem aKB (H) (bd:Nat) (O t M) (v:Value) (A:World) (w) (W X:World) (hv:∃ E,A.cell? ⟨bd,0,none⟩=some E/\DfR H A E O) (S:W.cell? ⟨bd,0,none⟩=some v) (I:A.grownBy w none) (G:w.grownBy W none) (N:TxO A.heap.size w M t) (F:bd<H) (hH:H<=A.heap.size) (J:X=((W.setCell ⟨bd,2,none⟩ (.bool false)).drew).drew):DfR H (A.setCell ⟨bd,2,none⟩ (.bool false)) v O/\TxO (A.setCell ⟨bd,2,none⟩ (.bool false)).heap.size X M t/\(A.setCell ⟨bd,2,none⟩ (.bool false)).grownBy X none:=by
 obtain ⟨E,h1,h2⟩:=hv;have e:=(aA I G).cell h1 (by simp);rw [S] at e;cases e;have D:∀ U:World,U.grownBy U.drew none:=fun U=>⟨rfl,rfl,rfl,Nat.le_refl _,fun _ _ _=>rfl⟩;refine ⟨h2.set _ _ _ F,?_,?_⟩
 .have gs:W.grownBy (W.setCell ⟨bd,2,none⟩ (.bool false)) (some bd):=⟨rfl,rfl,rfl,by simp,fun i _ Y=>Below.heap_setCell _ _ _ _ (fun e=>Y (by rw [e]))⟩;have Z:=((N.K G).row gs (fun x e h=>by cases h;have:=(N.lt bd e).1;omega));rw [J];have h4:=(Z.K (D _)).K (D _);simpa using h4
 .rw [J];exact aA (aA (aBE (aA I G) bd 2 (.bool false) (by omega)) (D _)) (D _)
theorem aA1 (H bd) (A:List Pc) (E:Bool) (p G w W) (N:iC H G bd (A,E)) (J:G.grownBy w none) (D:w.grownBy W none) (F:bd<H) (hH:H<=G.heap.size) (M:oO (A,E) p=(A,true)) :
  iC H (W.setCell ⟨bd,2,none⟩ (.bool true)).drew bd (oO (A,E) p)/\Frd H bd w (W.setCell ⟨bd,2,none⟩ (.bool true)).drew:=by
 have h:=(N.K J).K D;obtain ⟨Y,S,O⟩:=h.v;have I:∀ U:World,U.grownBy U.drew none:=fun U=>⟨rfl,rfl,rfl,Nat.le_refl _,fun _ _ _=>rfl⟩;have hs:=J.size;refine ⟨?_,(Frd.grown D (by omega) (fun x e=>by cases e)).trans ((Frd.set H bd W 2 (.bool true)).trans (Frd.grown (I _) (by have:=D.size;simp;omega) (fun x e=>by cases e)))⟩;rw [M];have c:∀ j,j≠2->(W.setCell ⟨bd,2,none⟩ (.bool true)).cell? ⟨bd,j,none⟩=W.cell? ⟨bd,j,none⟩:=fun j Z=>cell?_setCell_other _ _ _ _ (by intro e;have:=congrArg Addr.off e;simp only at this;omega);refine iC.K (w:=W.setCell ⟨bd,2,none⟩ (.bool true)) ⟨⟨Y,by rw [c 0 (by omega)];exact S,O.set _ _ _ F⟩,by rw [c 1 (by omega)];exact h.r,?_,fun j=>by simpa using h.fz j,h.n,h.sm⟩ (I _);have:=h.f;simp [go_sem,this]
theorem aMw (H) (bd:Nat) (h:List Pc) (p:Pc) (w Y v) (x:Value) (D:DfR H Y v (h++[p])) (M:Y.cell? ⟨bd,0,none⟩=some v) (G:Y.cell? ⟨bd,1,none⟩=some x) (J:Y.cell? ⟨bd,2,none⟩=some (.bool false)) (N:∀ j,Y.frozen? ⟨bd,j,none⟩=false) (F:Frd H bd w Y) (E:bd<H) (S:h.length<40000) (Z:¬ 100000 - cR h<(p.t.length:Int)):iC H (Y.setCell ⟨bd,1,none⟩ (.int .i64 (100000 - cR (h++[p])))).drew bd (h++[p],false)/\Frd H bd w (Y.setCell ⟨bd,1,none⟩ (.int .i64 (100000 - cR (h++[p])))).drew:=by
 have I:∀ U:World,U.grownBy U.drew none:=fun U=>⟨rfl,rfl,rfl,Nat.le_refl _,fun _ _ _=>rfl⟩;have c:∀ j,j≠1->(Y.setCell ⟨bd,1,none⟩ (.int .i64 (100000 - cR (h++[p])))).cell? ⟨bd,j,none⟩=Y.cell? ⟨bd,j,none⟩:=fun j O=>cell?_setCell_other _ _ _ _ (by intro e;have:=congrArg Addr.off e;simp only at this;omega);refine ⟨iC.K (w:=Y.setCell ⟨bd,1,none⟩ (.int .i64 (100000 - cR (h++[p])))) ⟨⟨v,by rw [c 0 (by omega)];exact M,D.set _ _ _ E⟩,by simp [go_sem,G],by rw [c 2 (by omega)];exact J,fun j=>by simpa using N j,by simp;omega,by simp only [sO];omega⟩ (I _),?_⟩;have A:=F.trans (Frd.set H bd Y 1 (.int .i64 (100000 - cR (h++[p]))));exact ⟨A.os,A.tape,A.output,A.size,A.block⟩
theorem aDS (H bd s) (p:Pc) (tv w0 w) (hd:iC H w0 bd s) (g0:w0.grownBy w none) (ht:TxO w0.heap.size w tv p.t) (M:bd<H) (hH:H<=w0.heap.size) (hn:p.t.length<=1000000000) :
  Calls prog 103 #[.pointer (some ⟨bd,0,none⟩),.agg #[.int .i64 p.k,tv,.int .i64 p.n]] w fun e w'=>e=.returned (.tuple #[])/\iC H w' bd (oO s p)/\Frd H bd w w':=by
 have G:=hd.K g0;obtain ⟨dv,c0,c5⟩:=G.v;have c1:=G.r;have c2:=G.f;have fz:=G.fz;have h8:=G.n;have l6:=G.sm;have k9:=fW s.1;obtain ⟨ta,E,f8,_,_⟩:=ht.sl;obtain ⟨da,J,i3⟩:=c5.sl;have HD:=aB hd;have HT:=aB ht;have HG:=aB g0;have l7:=g0.size;subst f8 i3;obtain ⟨W,F⟩:∃ W,W=w.alloc (Obj.cells #[Value.int IntKind.i64 p.k,.slice ta p.t.length E,Value.int IntKind.i64 p.n] 88):=⟨_,rfl⟩;have gW:w.grownBy W none:=(by rw [F];exact gWA);have sW:W.heap.size=w.heap.size+1:=(by rw [F];simp);have d0:=gW.cell c0 (by simp);have d1:=gW.cell c1 (by simp);have d2:=gW.cell c2 (by simp);have d3:W.cell? ⟨w.heap.size,1,none⟩=some (.slice ta p.t.length E):=(by rw [F];simp [go_sem]);have e0:W.cell? ⟨w.heap.size,0,none⟩=some (.int .i64 p.k):=(by rw [F];simp [go_sem]);have e2:W.cell? ⟨w.heap.size,2,none⟩=some (.int .i64 p.n):=(by rw [F];simp [go_sem]);have f2:∀ j,W.frozen? ⟨bd,j,none⟩=false:=fun j=>by rw [frozen?_of_block (gW.block bd (block_lt_of_cell? w _ c0) (by simp))];exact fz j
 have g8:=f2 2;have GW:=aB gW;have HW:=aB F;clear c0 c1 c2 fz G hd ht g0 c5 gW;obtain ⟨A,b7⟩:=s;simp only at *;cases b7 with
 | true=>
   have HR:=aB (show oO (A,true) p=(A,true) by simp [oO])
   go_enter func103,ntmps103
   go_wp2;rw [<- HW.out];clear F
   go_region
   go_wp2;refine bodyPost_ret (results_none rfl _ _ _) rfl ?_;exact ⟨rfl,aA1 H bd A true p w0 w W HD.out HG.out GW.out M hH HR.out⟩
 | false=>
   by_cases hA:A.length=40000
   .have HR:=aB (show oO (A,false) p=(A,true) by simp [oO,hA]);have f5:((A.length:Int)==40000)=true:=by simp;omega
    go_enter func103,ntmps103
    go_wp2;rw [<- HW.out];clear F
    go_region
    go_wp2;refine bodyPost_ret (results_none rfl _ _ _) rfl ?_;exact ⟨rfl,aA1 H bd A false p w0 w W HD.out HG.out GW.out M hH HR.out⟩
   .have f5:((A.length:Int)==40000)=false:=by simp;omega
    by_cases hB:100000 - cR A<(p.t.length:Int)
    .have HR:=aB (show oO (A,false) p=(A,true) by simp [oO,hB]);have g3:decide (100000 - cR A<(p.t.length:Int))=true:=by simpa using hB
     go_enter func103,ntmps103
     go_wp2;rw [<- HW.out];clear F;generalize 100000 - cR A=rm at *
     go_region
     go_wp2;refine bodyPost_ret (results_none rfl _ _ _) rfl ?_;exact ⟨rfl,aA1 H bd A false p w0 w W HD.out HG.out GW.out M hH HR.out⟩
    .have HR:=aB (show oO (A,false) p=(A++[p],false) by unfold oO;rw [if_neg (by simp;omega)]);have g3:decide (100000 - cR A<(p.t.length:Int))=false:=(by simpa using hB);have f1:Hid (100000 - cR (A++[p])=100000 - cR A - p.t.length):=(by unfold Hid;rw [sO];omega);obtain ⟨X,N⟩:∃ X,X=((W.setCell ⟨bd,2,none⟩ (.bool false)).drew).drew:=⟨_,rfl⟩;obtain ⟨a0,b6,gX⟩:=aKB H bd A p.t (.slice ta p.t.length E) (.slice da A.length J) w0 w W X HD.out.v d0 HG.out GW.out HT.out M hH N;have b5:X.heap.size=w.heap.size+1:=(by rw [N];simp [sW]);obtain ⟨v2,Z,a3,o2,g2,a2,c2,h7⟩:=a0.push p.k p.n _ p.t gX b6 (by simpa using hH) (by omega);rw [b5] at a3;have g6:=aB o2;have S:∀ x,(Value.slice da A.length J).ownBlock=some x->H<=x:=fun x e=>(a0.lt x e).1
     have bX:∀ j,X.cell? ⟨bd,j,none⟩=if j=2 then some (.bool false) else W.cell? ⟨bd,j,none⟩:=fun j=>by
      rw [N]
      by_cases h:j=2
      .subst h;simp [go_sem,d2]
      .rw [if_neg h];show (W.setCell _ _).cell? _=_;rw [cell?_setCell_other _ _ _ _ (by intro e;have:=congrArg Addr.off e;simp only at this;omega)]
     have wX:∀ j,X.cell? ⟨w.heap.size,j,none⟩=W.cell? ⟨w.heap.size,j,none⟩:=fun j=>by
      rw [N]
      show (W.setCell _ _).cell? _=_
      rw [cell?_setCell_other _ _ _ _ (by intro e;have:=congrArg Addr.block e;simp only at this;omega)]
     have fX:∀ j,X.frozen? ⟨bd,j,none⟩=false:=fun j=>by rw [N];simpa using f2 j
     obtain ⟨I,hI⟩:∃ I:World->Prop,I=(fun U:World=>U.cell? ⟨bd,0,none⟩=some (.slice da A.length J)/\U.frozen? ⟨bd,0,none⟩=false/\U.cell? ⟨w.heap.size,0,none⟩=some (.int .i64 p.k)/\U.cell? ⟨w.heap.size,1,none⟩=some (.slice ta p.t.length E)/\U.cell? ⟨w.heap.size,2,none⟩=some (.int .i64 p.n)):=⟨_,rfl⟩;have D:I X:=(by rw [hI];exact ⟨by rw [bX];exact d0,fX 0,by rw [wX];exact e0,by rw [wX];exact d3,by rw [wX];exact e2⟩);have gA:=grownBy_alloc X (Obj.cells #[.int .i64 p.k,.slice ta p.t.length E,.int .i64 p.n] 88) none
     have b2:∀ (U:World) (r:Option Nat),X.grownBy U r->(∀ x,r=some x->x≠bd/\x≠w.heap.size)->I U:=fun U r g hr=>by
      rw [hI] at D ⊢;have n1:some bd≠r:=fun e=>(hr bd e.symm).1 rfl;have n2:some w.heap.size≠r:=fun e=>(hr _ e.symm).2 rfl;exact ⟨g.cell D.1 n1,by rw [frozen?_of_block (g.block bd (block_lt_of_cell? X _ D.1) n1)];exact D.2.1,g.cell D.2.2.1 n2,g.cell D.2.2.2.1 n2,g.cell D.2.2.2.2 n2⟩
     have c6:=b2 _ none gA (fun x e=>by cases e);have O:=b2 _ _ g2 (fun x e=>by have h1:=S x e;have h2:=(a0.lt x e).2;simp at h2;have:=HG.out.size;omega);have G2:=aB g2;have m1:=g2.size;have q1:Z.cell? ⟨bd,1,none⟩=some (.int .i64 (100000 - cR A)):=g2.cell (by rw [bX];simpa using d1) (fun e=>by have:=S bd e.symm;omega);have q2:Z.cell? ⟨bd,2,none⟩=some (.bool false):=g2.cell (by rw [bX];simp) (fun e=>by have:=S bd e.symm;omega)
     have qf:∀ j,Z.frozen? ⟨bd,j,none⟩=false:=fun j=>by
      rw [frozen?_of_block (g2.block bd (by rw [b5];have:=block_lt_of_cell? _ _ q1;omega) (fun e=>by have:=S bd e.symm;omega))];exact fX j
     have h0:Hid (Frd H bd w Z):=((Frd.grown GW.out (by omega) (fun x e=>by cases e)).trans ((Frd.set H bd W 2 (.bool false)).trans ⟨by rw [N];rfl,by rw [N];rfl,by rw [N];rfl,by rw [N];simp,fun k _ _=>by rw [N];rfl⟩)).trans (Frd.grown g2 (by omega) (fun x e=>.inl (S x e)));have QF:=aB qf;have g4:=qf 1;have f3:=qf 0;subst h7;have b9:=O;rw [hI] at b9;obtain ⟨y0,y1,y2,y3,y4⟩:=b9;have k3:=fW A;have f0:=aB N;clear o2 g2 gA b2 wX bX a0 b6 gX qf N
     go_enter func103,ntmps103
     go_wp2;rw [<- HW.out];clear F;generalize h6:100000 - cR A=rm at *
     go_region
     go_wp2;refine aW I (fun i=>i==10) (by kernel_rfl) ?_;rw [<- f0.out]
     show fK _ _ _ _ _ _ 11 (Array.replicate 11 false) _ _
     refine bG (i:=0) (.pointer (some ⟨bd,0,none⟩)) rfl D (bI rfl (fun W F=>by go_simp)) ?_;refine bG (i:=1) (.pointer (some ⟨bd,0,none⟩)) rfl D (bI rfl (fun W F=>by go_simp)) ?_;refine bG (i:=2) (.pointer (some ⟨bd,0,none⟩)) rfl D (bI rfl (fun W F=>by go_simp)) ?_;refine bG (i:=3) (.pointer (some ⟨bd,0,none⟩)) rfl D (bI rfl (fun W F=>by go_simp)) ?_;refine bG (i:=4) (.slice da A.length J) rfl D (bI rfl (fun W F=>by rw [hI] at F;obtain ⟨h1,h2,h3,h4,h5⟩:=F;go_simp)) ?_;refine bG (i:=5) (.agg #[.int .i64 p.k,.slice ta p.t.length E,.int .i64 p.n]) rfl D (bI rfl (fun W F=>by rw [hI] at F;obtain ⟨h1,h2,h3,h4,h5⟩:=F;go_simp)) ?_;generalize hG:Act.put _ _ _=A0;simp [Act.put] at hG;subst hG;refine aG (i:=6) (by kernel_rfl) (bM (w':=X.alloc (Obj.cells #[.int .i64 p.k,.slice ta p.t.length E,.int .i64 p.n] 88)) (v:=.slice (some ⟨X.heap.size,0,none⟩) 1 1) rfl rfl (by go_simp) ⟨.inr c6,?_⟩);refine aG (i:=7) (by kernel_rfl) (bM (w':=Z) (v:=.slice a2 (A.length+1) c2) rfl rfl (by go_simp) ⟨.inr O,?_⟩);refine aG (i:=8) (by kernel_rfl) (bM (w':=Z) (v:=.pointer (some ⟨bd,0,none⟩)) rfl rfl (by go_simp) ⟨.inr O,?_⟩);refine aG (i:=9) (by kernel_rfl) (bM (w':=Z) (v:=.pointer (some ⟨bd,0,none⟩)) rfl rfl (by go_simp) ⟨.inr O,?_⟩);refine aG (i:=10) (by kernel_rfl) (eH (w':=Z.setCell ⟨bd,0,none⟩ (.slice a2 (A.length+1) c2)) rfl rfl (by go_simp) ⟨.inl rfl,?_⟩);refine bK (by kernel_rfl) ?_ _;subst hI;obtain ⟨Y,hY⟩:∃ Y,Y=Z.setCell ⟨bd,0,none⟩ (.slice a2 (A.length+1) c2):=⟨_,rfl⟩;have b0:∀ j,j≠0->Y.cell? ⟨bd,j,none⟩=Z.cell? ⟨bd,j,none⟩:=fun j hj=>by rw [hY];exact cell?_setCell_other _ _ _ _ (by intro e;have:=congrArg Addr.off e;simp only at this;omega)
     have r1:Y.cell? ⟨bd,1,none⟩=some (.int .i64 rm):=(by rw [b0 1 (by omega)];exact q1);have r2:Y.cell? ⟨bd,2,none⟩=some (.bool false):=(by rw [b0 2 (by omega)];exact q2);have r0:Y.cell? ⟨bd,0,none⟩=some (.slice a2 (A.length+1) c2):=(by rw [hY];simp [go_sem,y0]);have r3:Y.cell? ⟨w.heap.size,1,none⟩=some (.slice ta p.t.length E):=(by rw [hY,cell?_setCell_other _ _ _ _ (by intro e;have:=congrArg Addr.block e;simp only at this;omega)];exact y3);have rf:∀ j,Y.frozen? ⟨bd,j,none⟩=false:=fun j=>by rw [hY];simpa using QF.out j
     have l9:=rf 1;have RF:=aB rf;have g5:Hid (DfR H Y (.slice a2 (A.length+1) c2) (A++[p])):=(by unfold Hid;rw [hY];exact g6.out.set _ _ _ M);have h9:Hid (Frd H bd w Y):=(by unfold Hid;rw [hY];exact h0.out.trans (Frd.set _ _ _ _ _));clear D c6 O a3 y0 y1 y2 y3 y4 q1 q2 f3 g4 b0 rf d0 d1 d2 d3 e0 e2 f2 g8;go_wp2;rw [<- hY];clear hY
     go_region
     all_goals go_wp2
     all_goals go_end0
     all_goals rw [HR.out]
     all_goals have a8:=aMw H bd A p w Y _ _ g5.out r0 r1 r2 RF.out h9.out M (by have:=h8;omega) (by have:=hB;rw [<- h6] at this;omega)
     all_goals rw [f1.out] at a8
     all_goals have k7:rm<=100000:=by omega
     all_goals have l1:(p.t.length:Int)<=rm:=by omega
     all_goals have i1:IntKind.i64.wrap (rm - ↑p.t.length)=rm - ↑p.t.length:=by rw [IntKind.wrap_i64];omega
     all_goals rw [i1]
     all_goals exact ⟨rfl,a8⟩
end
open Go.RowKit
def bU (w:World) (F:Nat->Prop) (f:Nat) (caps:Array Value) (ps:List Pc):Prop:=
 (∀ (args:Array Value) (W:World),(callFunc f args).run prog W=.ok (.enter f args) W)/\(∀ p∈ps,p.t.length<=1000000000)/\
 ∀ (H bd:Nat) (W:World) (s:List Pc × Bool),(∀ k,F k->k<H/\k≠bd/\W.heap[k]?=w.heap[k]?)->iC H W bd s->bd<H->H<=W.heap.size->
  Calls prog f (#[.pointer (some ⟨bd,0,none⟩)]++caps) W fun e W'=>e=.returned (.tuple #[])/\iC H W' bd (iY s ps)/\Frd H bd W W'
theorem bU.at {w} {J:World} {F I:Nat->Prop} {f D M} (h:bU w F f D M) (E:∀ k,F k->I k) (N:∀ k,F k->J.heap[k]?=w.heap[k]?):bU J I f D M:=
 ⟨h.1,h.2.1,fun H bd W s G=>h.2.2 H bd W s (fun k A=>⟨(G k (E k A)).1,(G k (E k A)).2.1,(G k (E k A)).2.2.trans (N k A)⟩)⟩
theorem cM {w A:World} {b o:Nat} {v:Value} (h:w.cell? ⟨b,o,none⟩=some v) (e:A.heap[b]?=w.heap[b]?):A.cell? ⟨b,o,none⟩=some v:=by
 rw [<- h];exact cell?_of_block e
theorem Frd.draftless {H bd w A} (h:Frd H bd w A) (D:H<=w.heap.size):H<=A.heap.size:=Nat.le_trans D h.size
theorem aKY (H bd) (g:Nat) (s h) (hb:Bys h) (I:h.length<=1000000000) (W:World) (G:W.cell? ⟨g,0,none⟩=some (.string (strOfNums h))) (hd:iC H W bd s) (F:bd<H) (S:H<=W.heap.size) :
  Calls prog 135 #[.pointer (some ⟨bd,0,none⟩),.pointer (some ⟨g,0,none⟩)] W fun e W'=>e=.returned (.tuple #[])/\iC H W' bd (oO s ⟨1,h,0⟩)/\Frd H bd W W':=by
 obtain ⟨A,w1,J,M,E,hs,N⟩:=aBA h hb I W
 have ht:TxO W.heap.size w1 (.slice (some ⟨W.heap.size,0,none⟩) h.length A) h:=by
  obtain ⟨a,Z,e,k1,k2,k3⟩:=M;simp only [Value.slice.injEq] at e;obtain ⟨rfl,_,rfl⟩:=e;refine .inr ⟨W.heap.size,A,rfl,k1,k2,Nat.le_refl _,by omega,fun j D=>⟨?_,N j D⟩⟩;obtain ⟨b,a9,ha,_,G⟩:=k3 (fun e=>by rw [e] at D;simp at D);cases ha;have:=G j D
  rwa [Nat.zero_add] at this
 have O:=aB (aDS H bd s ⟨1,h,0⟩ _ W w1 hd E ht F S I);have HG:=aB E;clear hd ht M N hs E
 go_enter func135,ntmps135
 go_wp2_with fail
 refine O.out.mono ?_;rintro e w2 ⟨rfl,Y,h2⟩;have HF:=aB ((Frd.grown (bd:=bd) HG.out S (fun x e=>by cases e)).trans h2);have HD:=aB Y;clear O Y h2;go_wp2
 go_end0
 exact ⟨rfl,HD.out,HF.out⟩
theorem cN (A) (O:Bys A) (G:A.length<=1000000000) (w) :
  Calls prog 97 #[.string (strOfNums A)] w fun e D=>∃ f h,e=.returned (.func (.func f) #[] h)/\bU D (fun k=>w.heap.size<=k/\k<D.heap.size) f h (aI A)/\w.grownBy D none:=by
 go_enter func97,ntmps97
 go_wp2;go_ret;refine ⟨_,_,rfl,⟨fun args W=>by kernel_rfl,fun p F=>by simp [aI] at F;subst F;exact G,fun H bd W s I J E M=>?_⟩,gWA⟩;have N:=I w.heap.size ⟨Nat.le_refl _,by simp⟩;exact aKY H bd w.heap.size s A O G W (cM (w:=w.alloc (Obj.cells #[.string (strOfNums A)] 9)) (by simp [go_sem]) N.2.2) J E M
def PaR (w:World) (F:Nat->Prop) (v:Value) (dss:List (List Pc)):Prop:=
 ∃ a cap,v=.slice a dss.length cap/\dss.length<=cap/\cap<=maxLen/\(dss≠[]->∃ b off,a=some ⟨b,off,none⟩/\F b/\b<w.heap.size/\∀ (j:Nat) (ds:List Pc),dss[j]?=some ds->∃ f caps,w.cell? ⟨b,off+j,none⟩=some (.func (.func f) #[] caps)/\bU w F f caps ds)
theorem PaR.at {w} {G:World} {F M:Nat->Prop} {v D} (h:PaR w F v D) (I:∀ k,F k->M k) (hs:w.heap.size<=G.heap.size) (J:∀ k,F k->G.heap[k]?=w.heap[k]?):PaR G M v D:=by
 obtain ⟨a,E,e,h1,h2,Y⟩:=h;refine ⟨a,E,e,h1,h2,fun h0=>?_⟩;obtain ⟨b,H,ha,N,Z,O⟩:=Y h0;refine ⟨b,H,ha,I b N,by omega,fun j ds hj=>?_⟩;obtain ⟨f,A,h4,S⟩:=O j ds hj;exact ⟨f,A,cM h4 (J b N),S.at I J⟩
theorem PaR.sl {w} {F:Nat->Prop} {v A} (h:PaR w F v A):Sl v A.length:=by
 obtain ⟨a,D,e,G,E,_⟩:=h;exact ⟨a,D,e,G,E⟩
theorem aLs (H bd b1 E:Nat) (s) (F:Nat->Prop) (kd n:Int) (v:Value) (h:List (List Pc)) (W:World) (S:∀ k,F k->k<H/\k≠bd) (D:E<H/\E≠bd) (hl:h.length<=1000000000) (c1:W.cell? ⟨b1,0,none⟩=some v) (a0:W.cell? ⟨E,0,none⟩=some (.int .i64 kd)) (a5:W.cell? ⟨E,1,none⟩=some (.slice none 0 0)) (a4:W.cell? ⟨E,2,none⟩=some (.int .i64 n)) (hp:PaR W F v h) (hd:iC H W bd s) (a1:bd<H) (hH:H<=W.heap.size) :
  Calls prog 140 #[.pointer (some ⟨bd,0,none⟩),.pointer (some ⟨b1,0,none⟩),.pointer (some ⟨E,0,none⟩)] W fun e W'=>e=.returned (.tuple #[])/\iC H W' bd (iY s (h.flatten++[⟨kd,[],n⟩]))/\Frd H bd W W':=by
 obtain ⟨a,c7,hv,d4,c6,hh⟩:=id hp;have HH:=aB hh;have HD:=aB hd;subst hv;clear hd hh hp
 go_enter func140,ntmps140
 go_wp2
 go_loopw [8] (fun i U=>∃ (j:Nat),j<=h.length/\i=.int .i64 j/\iC H U bd (iY s (h.take j).flatten)/\Frd H bd W U)
  (fun i _=>h.length - (intOf i).toNat)
 case atStart=>exact ⟨0,Nat.zero_le _,rfl,by simpa [iY] using HD.out,Frd.refl _ _ _⟩
 case round=>
  obtain ⟨j,hj,rfl,G,A⟩:=hrel;have Z:=A.draftless hH
  by_cases I:j<h.length
  .obtain ⟨b,b0,ha,hb,c8,hc⟩:=HH.out (fun e=>by rw [e] at I;simp at I);obtain ⟨f,Y,a2,J⟩:=hc j h[j] (by simp [I]);have b5:wr.cell? ⟨b,b0+j,none⟩=some (.func (.func f) #[] Y):=cM a2 (A.block b (S b hb).1 (S b hb).2);have hE:=J.1;have HC:=aB (J.2.2 H bd wr _ (fun k hk=>⟨(S k hk).1,(S k hk).2,A.block k (S k hk).1 (S k hk).2⟩) G a1 Z);have HT:=aB (show (h.take (j+1)).flatten=(h.take j).flatten++h[j] by rw [show h.take (j+1)=h.take j++[h[j]] by rw [take_add_one];simp [I],flatten_append,flatten_singleton]);have M:=aB A;subst ha;clear a2 J hc G A;generalize h[j]=ds at *
   go_wp2_with fail
   refine HC.out.mono ?_;rintro e w1 ⟨rfl,h1,h2⟩;have O:Hid (iC H w1 bd (iY s (h.take (j+1)).flatten)):=(by unfold Hid;rw [HT.out,sP];exact h1);have N:=aB (M.out.trans h2);clear HC h1 h2 HT;go_wp2
   go_roundw
   case rel=>exact ⟨j+1,by omega,by go_num,O.out,N.out⟩
   case measure=>simp [intOf];omega
  .have a9:j=h.length:=(by omega);subst a9;rw [take_length] at G;have q0:wr.cell? ⟨E,0,none⟩=some (.int .i64 kd):=cM a0 (A.block E D.1 D.2);have q1:wr.cell? ⟨E,1,none⟩=some (.slice none 0 0):=cM a5 (A.block E D.1 D.2);have q2:wr.cell? ⟨E,2,none⟩=some (.int .i64 n):=cM a4 (A.block E D.1 D.2);have HP:=aB (aDS H bd _ ⟨kd,[],n⟩ (.slice none 0 0) wr wr G (grownBy.refl _ _) (TxO.nil _ _) a1 Z (by simp));have M:=aB A;clear G A c1 a0 a5 a4
   go_wp2_with fail
   refine HP.out.mono ?_;rintro e w1 ⟨rfl,h1,h2⟩;have O:Hid (iC H w1 bd (iY s (h.flatten++[⟨kd,[],n⟩]))):=(by unfold Hid;rw [sP];exact h1);have N:=aB (M.out.trans h2);clear HP h1 h2;go_wp2
   go_end0
   exact ⟨rfl,O.out,N.out⟩
theorem aMf (H bd Z:Nat) (s) (F:Nat->Prop) (v:Value) (M:List Pc) (h:List (List Pc)) (W:World) (J:∀ k,F k->k<H/\k≠bd) (a5:Z<H/\Z≠bd) (hl:h.length<=1000000000) (c1:W.cell? ⟨Z,0,none⟩=some v) (hp:PaR W F v (M::h)) (hd:iC H W bd s) (O:bd<H) (hH:H<=W.heap.size) :
  Calls prog 102 #[.pointer (some ⟨bd,0,none⟩),.pointer (some ⟨Z,0,none⟩)] W fun e W'=>e=.returned (.tuple #[])/\iC H W' bd (iY s (M++jM h))/\Frd H bd W W':=by
 obtain ⟨a,D,hv,c4,c0,hh⟩:=id hp;obtain ⟨b,I,ha,hb,f7,hc⟩:=hh (by simp);obtain ⟨f0,b7,a7,G⟩:=hc 0 M rfl;have HH:=aB hc;have b9:=G.1;have b0:=aB (G.2.2 H bd W s (fun k Y=>⟨(J k Y).1,(J k Y).2,rfl⟩) hd O hH);have b8:(M::h).length=h.length+1:=rfl;rw [b8] at hv c4;rw [Nat.add_zero] at a7;have f8:D<=9223372036854775807:=(by unfold maxLen at c0;omega);subst ha hv;clear hd hh hp G hc
 go_enter func102,ntmps102
 go_wp2_with fail
 refine b0.out.mono ?_;rintro e w1 ⟨rfl,a8,S⟩;have b3:=aB a8;have b2:=aB S;have c3:w1.cell? ⟨Z,0,none⟩=some (.slice (some ⟨b,I,none⟩) (h.length+1) D):=cM c1 (S.block Z a5.1 a5.2);clear b0 a8 S a7 b9;have d1:1<=D:=by omega
 by_cases a1:D=1
 .have c5:h=[]:=eq_nil_of_length_eq_zero (by omega);subst c5 a1;simp only [length_nil,Nat.zero_add] at c3 ⊢;go_wp2
  go_loopw [13] (fun i U=>i=.int .i64 0/\w1=U) (fun i _=>0)
  case atStart=>exact ⟨rfl,rfl⟩
  case round=>
   obtain ⟨rfl,rfl⟩:=hrel;go_wp2
   go_end0
   exact ⟨rfl,by simpa [jM] using b3.out,b2.out⟩
 .have d6:(D==1)=false:=(by simpa using a1);go_wp2
  go_loopw [13] (fun i U=>∃ (j:Nat),j<=h.length/\i=.int .i64 j/\iC H U bd (iY s (M++jM (h.take j)))/\Frd H bd W U)
   (fun i _=>h.length - (intOf i).toNat)
  case atStart=>exact ⟨0,Nat.zero_le _,rfl,by simpa [jM] using b3.out,b2.out⟩
  case round=>
   obtain ⟨j,hj,rfl,E,A⟩:=hrel;have a4:=A.draftless hH
   by_cases a3:j<h.length
   .obtain ⟨f,a2,a6,N⟩:=HH.out (j+1) h[j] (by simp [a3]);have c9:wr.cell? ⟨b,I+1+j,none⟩=some (.func (.func f) #[] a2):=cM (by rw [show I+1+j=I+(j+1) by omega];exact a6) (A.block b (J b hb).1 (J b hb).2);have hE:=N.1;have HC:=aB (N.2.2 H bd wr _ (fun k Y=>⟨(J k Y).1,(J k Y).2,A.block k (J k Y).1 (J k Y).2⟩) E O a4);have HT:=aB (show jM (h.take (j+1))=jM (h.take j)++(h[j]++[wV]) by rw [show h.take (j+1)=h.take j++[h[j]] by rw [take_add_one];simp [a3],aCp]);have c6:=aB A;clear a6 N E A;generalize h[j]=ds at *
    go_wp2_with fail
    refine HC.out.mono ?_;rintro e w2 ⟨rfl,h1,h2⟩;have HP:=aB (aDS H bd _ ⟨6,[],0⟩ (.slice none 0 0) w2 w2 h1 (grownBy.refl _ _) (TxO.nil _ _) O (h2.draftless a4) (by simp));have c2:=aB (c6.out.trans h2);clear HC h1 h2
    go_wp2_with fail
    refine HP.out.mono ?_;rintro e w3 ⟨rfl,h1,h2⟩
    have c8:Hid (iC H w3 bd (iY s (M++jM (h.take (j+1))))):=by
     unfold Hid;rw [HT.out];have e:M++(jM (h.take j)++(ds++[wV]))=((M++jM (h.take j))++ds)++[wV]:=(by simp);rw [e,sP,sP];exact h1
    have c7:=aB (c2.out.trans h2);clear HP h1 h2 HT;go_wp2
    go_roundw
    case rel=>exact ⟨j+1,by omega,by go_num,c8.out,c7.out⟩
    case measure=>simp [intOf];omega
   .have b5:j=h.length:=(by omega);subst b5;rw [take_length] at E;have b6:=aB E;clear E;go_wp2
    go_end0
    exact ⟨rfl,b6.out,A⟩
end Go.Proofs.YtckcaefnokeodaaGreatDoor
