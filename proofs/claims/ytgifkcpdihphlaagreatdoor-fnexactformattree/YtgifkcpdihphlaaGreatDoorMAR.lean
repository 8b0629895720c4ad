import Derived.Test.YtgifkcpdihphlaaGreatDoorMAQ
set_option maxHeartbeats 16000000
set_option maxRecDepth 100000
namespace Go.Proofs.YtgifkcpdihphlaaGreatDoor
open Tryz
open Go.RowKit
theorem aMD:(prog.info? 81).map (fun i=>(i.zero,i.size,i.bytes))=some (some (.agg #[.bool false,.slice none 0 0]),2,32):=by kernel_rfl
theorem uP {B:Nat} {w:World} {e:TypeId} {size n:Nat} {v:Value} {xs:List Value} (h:w.ownsRow B e size v n xs) (a:Addr) (u:Value) (j:v.ownBlock≠some a.block):(w.setCell a u).ownsRow B e size v n xs:=
 World.ownsRow.kept h ⟨rfl,rfl,rfl,by simp,fun i _ y=>Below.heap_setCell _ _ _ _ (fun e=>y (by rw [e]))⟩ (by
  cases hv:v.ownBlock with
  | none=>exact .inl rfl
  | some k=>exact .inr (fun e=>j (by rw [hv,e])))
theorem Ow.setC {q:IntKind} {t:TypeId} {B:Nat} {w:World} {v:Value} {zs:List Int} (h:Ow q t B w v zs) (a:Addr) (u:Value) (j:a.block<B):Ow q t B (w.setCell a u) v zs:=
 uP h a u (fun e=>by have:=World.ownsRow.lt h _ e;omega)
theorem dH {W j:World} {a:Addr} {v:Value} (u:W.grownBy j none) (h:W.cell? a=some v) (y:W.frozen? a=false):j.cell? a=some v/\j.frozen? a=false:=
 ⟨u.cell h (by simp),(World.frozen?_of_block (u.block a.block (World.block_lt_of_cell? W a h) (by simp))).trans y⟩
theorem aBh (p:Cm) (tv:Value) (w:World) (hv:RdB w.heap.size w tv p.t) (X:p.t.length<=1048576) :
  Calls prog 47 #[.agg #[.bool p.b,tv]] w fun e w'=>∃ tv',e=.returned (.agg #[.bool p.b,tv'])/\OwB w.heap.size w' tv' p.t/\w.grownBy w' none:=by
 obtain ⟨a,cap,A,_⟩:=id hv
 go_enter func47,ntmps47
 subst A
 go_wp2_with fail
 refine (xV _ p.t _ (by refine (hv.K ?_).now;exact aA (aA gWA gWA) gWA) (by omega)).mono ?_;rintro e J ⟨tv',rfl,y,h⟩;obtain ⟨a1,j,G,_⟩:=y.rd;have D:=dH (a:=⟨w.heap.size+1,0,none⟩) (v:=.bool false) h (by simp [go_sem]) (by simp [go_sem]);have E:=dH (a:=⟨w.heap.size+1,1,none⟩) (v:=.slice none 0 0) h (by simp [go_sem]) (by simp [go_sem]);have L:=dH (a:=⟨w.heap.size+1+1,0,none⟩) (v:=.bool p.b) h (by simp [go_sem]) (by simp [go_sem]);have M:=dH (a:=⟨w.heap.size+1+1,1,none⟩) (v:=.slice none 0 0) h (by simp [go_sem]) (by simp [go_sem]);obtain ⟨D,O⟩:=D;obtain ⟨E,U⟩:=E;obtain ⟨L,N⟩:=L;obtain ⟨M,S⟩:=M;have u:Below w.heap.size w J:=(((((Below.refl w.heap.size w).alloc (Nat.le_refl _) _).alloc (by simp) _).alloc (by simp;omega) _).grown h (by simp;omega) (fun k e=>by cases e));have H:Hid (OwB (w.heap.size+3) J tv' p.t):=bH (by simp) y;clear y h;subst G;go_wp2;refine bodyPost_ret (v:=.agg #[.bool p.b,.slice a1 p.t.length j]) (by simp [results,Tryz.results47,go_sem,D,E]) rfl ?_;refine ⟨_,rfl,?_,?_⟩
 ·exact bH (by omega) (((H.out.setC _ _ (by simp)).setC _ _ (by simp)).setC _ _ (by simp))
 ·exact aC (((u.setCell (by simp;omega) _).setCell (by simp) _).setCell (by simp) _)
def iV:List Cm->List Value->List Value
 | p::ps,tv::tvs=>.bool p.b::tv::iV ps tvs
 | _,_=>[]
def yH:Nat->List Value
 | 0=>[]
 | m+1=>.bool false::.slice none 0 0::yH m
theorem aAc:∀ (ps:List Cm) (j:List Value),j.length=ps.length->(iV ps j).length=ps.length*2
 | [],[],_=>rfl
 | _::ps,_::j,h=>by simp only [List.length_cons,Nat.add_right_cancel_iff] at h;simp only [iV,List.length_cons,aAc ps j h];omega
 | [],_::_,h=>by simp at h
 | _::_,[],h=>by simp at h
theorem xX:∀ (ps:List Cm) (j:List Value) (p:Cm) (tv:Value),j.length=ps.length->iV (ps++[p]) (j++[tv])=iV ps j++[.bool p.b,tv]
 | [],[],_,_,_=>rfl
 | _::ps,_::j,p,tv,h=>by simp only [List.length_cons,Nat.add_right_cancel_iff] at h;simp only [List.cons_append,iV,xX ps j p tv h]
 | [],_::_,_,_,h=>by simp at h
 | _::_,[],_,_,h=>by simp at h
theorem xB:∀ (ps:List Cm) (y:List Value) (j:Nat) (p:Cm),y.length=ps.length->ps[j]?=some p->∃ tv,y[j]?=some tv/\(iV ps y)[j*2]?=some (.bool p.b)/\(iV ps y)[j*2+1]?=some tv
 | p0::ps,tv::y,0,p,h,hp=>by simp at hp;subst hp;exact ⟨tv,rfl,rfl,rfl⟩
 | p0::ps,tv::y,j+1,p,h,hp=>by
   simp only [List.length_cons,Nat.add_right_cancel_iff] at h;obtain ⟨u,A,D,E⟩:=xB ps y j p h (by simpa using hp);refine ⟨u,by simpa using A,?_,?_⟩
   ·rw [show (j+1)*2=j*2+2 by omega];simpa [iV] using D
   ·rw [show (j+1)*2+1=(j*2+1)+2 by omega];simpa [iV] using E
 | [],_,_,_,_,hp=>by simp at hp
 | _::_,[],_,_,h,_=>by simp at h
theorem aG7:∀ (n:Nat),(madeCells #[Value.bool false,.slice none 0 0] (n*2)).toList=yH n:=by
 intro n;apply List.ext_getElem?;intro j
 have u:∀ (n j:Nat),(yH n)[j]?=if j<n*2 then some ((#[Value.bool false,.slice none 0 0]:Array Value).getD (j%2) default) else none:=by
  intro n
  induction n with
  | zero=>intro j;simp [yH]
  | succ n ih=>
    intro j
    match j with
    | 0=>simp [yH]
    | 1=>simp only [yH];rw [if_pos (by omega)];rfl
    | j+2=>
      simp only [yH,List.getElem?_cons_succ];rw [ih j,show (j+2)%2=j%2 by omega]
      by_cases h:j<n*2
      ·rw [if_pos h,if_pos (by omega)]
      ·rw [if_neg h,if_neg (by omega)]
 rw [u]
 by_cases h:j<n*2
 ·simp [madeCells,h]
 ·simp [madeCells,h]
structure yM (B:Nat) (w:World) (g:Nat) (doc:List Cm) (tvs:List Value):Prop where
 len:tvs.length=doc.length
 own:∀ (j:Nat) (p:Cm) (tv:Value),doc[j]?=some p->tvs[j]?=some tv->OwB B w tv p.t/\tv.ownBlock≠some g
 apart:tvs.Pairwise (fun a b=>∀ g,a.ownBlock=some g->b.ownBlock≠some g)
theorem yM.K {B:Nat} {w w':World} {g:Nat} {doc:List Cm} {u:List Value} (h:yM B w g doc u) (D:w.grownBy w' none):yM B w' g doc u:=
 ⟨h.len,fun j p tv A y=>⟨(h.own j p tv A y).1.later D,(h.own j p tv A y).2⟩,h.apart⟩
theorem yM.set {B:Nat} {w:World} {g:Nat} {doc:List Cm} {y:List Value} (h:yM B w g doc y) (o:Nat) (u:Value):yM B (w.setCell ⟨g,o,none⟩ u) g doc y:=
 ⟨h.len,fun j p tv D A=>⟨uP (h.own j p tv D A).1 _ _ (h.own j p tv D A).2,(h.own j p tv D A).2⟩,h.apart⟩
theorem yM.snoc {B:Nat} {w E:World} {g:Nat} {doc:List Cm} {A:List Value} {p:Cm} {tv:Value} (h:yM B w g doc A) (U:B<=w.heap.size) (X:g<w.heap.size) (Y:w.grownBy E none) (L:OwB w.heap.size E tv p.t) :
  yM B E g (doc++[p]) (A++[tv]):=by
 have S:=h.len;refine ⟨by simp [S],fun j q u y D=>?_,?_⟩
 ·by_cases N:j<doc.length
  ·rw [List.getElem?_append_left N] at y;rw [List.getElem?_append_left (by omega)] at D;exact (h.K Y).own j q u y D
  ·have G:j=doc.length:=by
    have:=(List.getElem?_eq_some_iff.1 y).1;simp at this;omega
   subst G;simp at y;rw [<- S] at D;simp at D;subst y D;refine ⟨bH U L,fun e=>?_⟩;have:=World.ownsRow.lt L _ e;omega
 ·rw [List.pairwise_append];refine ⟨h.apart,by simp,?_⟩;intro a Z b O g' J H;simp at O;subst O;obtain ⟨j,N,M⟩:=List.getElem_of_mem Z;have y:=(h.own j (doc[j]'(by omega)) a (by simp [show j<doc.length by omega]) (by rw [<- M];simp [N])).1;have:=World.ownsRow.lt y _ J;have:=World.ownsRow.lt L _ H;omega
def OwC (B:Nat) (w:World) (v:Value) (doc:List Cm):Prop:=
 ∃ (g:Nat) (tvs:List Value),v=.slice (some ⟨g,0,none⟩) doc.length doc.length/\doc.length<=maxLen/\w.ownsRow B 81 2 v doc.length (iV doc tvs)/\yM B w g doc tvs
theorem OwC.later {B:Nat} {w w':World} {v:Value} {doc:List Cm} (h:OwC B w v doc) (u:w.grownBy w' none):OwC B w' v doc:=by
 obtain ⟨g,j,hv,A,D,y⟩:=h;exact ⟨g,j,hv,A,World.ownsRow.kept D u (by cases v.ownBlock<;>simp),y.K u⟩
theorem OwC.rd {B:Nat} {w:World} {v:Value} {doc:List Cm} (h:OwC B w v doc):RdC w.heap.size w v doc:=by
 obtain ⟨g,A,hv,H,y,G⟩:=h;have E:=World.ownsRow.lt y g (by rw [hv];rfl);refine ⟨_,_,hv,Nat.le_refl _,H,fun N=>⟨g,0,rfl,E.2,fun j p D=>?_⟩⟩;obtain ⟨tv,M,L,J⟩:=xB doc A j p G.len D;have O:=(List.getElem?_eq_some_iff.1 D).1;have u:=(G.own j p tv D M).1;rw [hv] at y;refine ⟨tv,?_,?_,u.rd,u.sl⟩
 ·rw [Nat.zero_add,World.ownsRow.cellAt y (j*2) (by omega)];exact L
 ·rw [Nat.zero_add,World.ownsRow.cellAt y (j*2+1) (by omega)];exact J
theorem set2 (A R:List Value) (x y j h:Value) (k:Nat) (u:A.length=k*2) :
  ((A++x::y::R).set (k*2) j).set (k*2+1) h=A++j::h::R:=by
 rw [List.set_append_right _ _ (by omega),List.set_append_right _ _ (by omega)];rw [show k*2 - A.length=0 by omega,show k*2+1 - A.length=1 by omega];rfl
theorem mU (v:Value) (doc:List Cm) (w:World) (hv:RdC w.heap.size w v doc) (hn:doc.length<=1048576) (ht:∀ p∈doc,p.t.length<=1048576) :
  Calls prog 21 #[v] w fun e w'=>∃ v',e=.returned v'/\OwC w.heap.size w' v' doc/\w.grownBy w' none:=by
 obtain ⟨i0,hi,a9,b5,b8⟩:=info_parts aMD;obtain ⟨a,cap,c1,_⟩:=id hv;subst c1
 go_enter func21,ntmps21
 go_wp2_with (at_make;refine wpList_make_full _ rfl _ _ 31 rfl w.heap.size 81 i0 (.agg #[.bool false,.slice none 0 0]) 2 underlying31 hi a9 b5 _ _ _ _ doc.length rfl rfl (by omega) (by omega) ?b2 ?b3 (Nat.le_refl _) ?_)
 case b2=>rw [b8];omega
 case b3=>unfold maxLen;omega
 intro w0 J H;go_wp2
 go_loopw [4] (fun i wr=>∃ (k:Nat) (D:List Value),k<=doc.length/\i=.int .i64 k/\wr.ownsRow w.heap.size 81 2 (.slice (some ⟨w.heap.size,0,none⟩) doc.length doc.length) doc.length (iV (doc.take k) D++yH (doc.length - k))/\yM w.heap.size wr w.heap.size (doc.take k) D/\w.grownBy wr none)
  (fun i _=>doc.length - (intOf i).toNat)
 case atStart=>
  refine ⟨0,[],Nat.zero_le _,rfl,?_,⟨rfl,fun j p tv h _=>by simp at h,by simp⟩,H⟩;simpa [aG7,Value.cells,iV] using J
 case round=>
  obtain ⟨k,D,hk,rfl,y,O,N⟩:=hrel
  by_cases L:k<doc.length
  ·obtain ⟨b,off,c6,tv,b9,hb,hp⟩:=(hv.K N).at k L;cases b9;have b7:=hp.k;have c3:=hp.t;have c4:(doc.take k).length=k:=(by simp;omega);have b1:w.heap.size<wr.heap.size:=(World.ownsRow.lt y w.heap.size rfl).2;have b4:=aAc (doc.take k) D O.len;have S:=aBh doc[k] tv wr (hp.rd.wideC (by omega)) (ht _ (List.getElem_mem L));obtain ⟨ta,c7,a8,d8,d6⟩:=hp.sl;subst a8;have X:doc.take (k+1)=doc.take k++[doc[k]]:=by rw [List.take_add_one];simp [L]
   have U:yH (doc.length - k)=.bool false::.slice none 0 0::yH (doc.length - (k+1)):=by
    rw [show doc.length - k=(doc.length - (k+1))+1 by omega];rfl
   rw [U] at y;clear U hv hp;have A:Hid (doc.take (k+1)=doc.take k++[doc[k]]):=X;clear X;generalize doc[k]=p at b7 c3 S A
   go_wp2_with fail
   refine S.mono ?_;rintro e w1 ⟨tv',rfl,o1,g1⟩;have u:=World.ownsRow.kept y g1 (.inr (by simp [Value.ownBlock]));have Y:=World.ownsRow.cellAt u (k*2) (by omega);have a5:=World.ownsRow.cellAt u (k*2+1) (by omega);rw [List.getElem?_append_right (by omega),show k*2 - (iV (doc.take k) D).length=0 by omega] at Y;rw [List.getElem?_append_right (by omega),show k*2+1 - (iV (doc.take k) D).length=1 by omega] at a5;simp only [List.getElem?_cons_zero,List.getElem?_cons_succ] at Y a5;have d7:=World.ownsRow.frozenAt u (k*2);have d1:=World.ownsRow.frozenAt u (k*2+1);have Z:=World.ownsRow.stored u (k*2) (.bool p.b);have a6:=World.ownsRow.stored Z.1 (k*2+1) tv';have G:=a6.1;rw [set2 _ _ _ _ _ _ k (by omega)] at G;have M:=((O.snoc (by omega) b1 g1 o1).set (k*2) (.bool p.b)).set (k*2+1) tv'
   have c2:w.grownBy ((w1.setCell ⟨w.heap.size,k*2,none⟩ (.bool p.b)).setCell ⟨w.heap.size,k*2+1,none⟩ tv') none:=
    aC (((aO (aA N g1)).setCell (by simp) _).setCell (by simp) _)
   have E:=xX (doc.take k) D p tv' O.len;rw [<- A.out] at M E
   have HR:Hid (((w1.setCell ⟨w.heap.size,k*2,none⟩ (.bool p.b)).setCell ⟨w.heap.size,k*2+1,none⟩ tv').ownsRow w.heap.size 81 2 (.slice (some ⟨w.heap.size,0,none⟩) doc.length doc.length) doc.length (iV (doc.take (k+1)) (D++[tv'])++yH (doc.length - (k+1)))):=by
    unfold Hid;rw [E];simpa using G
   have HT:Hid (yM _ _ _ _ _):=M;obtain ⟨a1,c9,b0,_⟩:=o1.rd;clear Z a6 G E M y u O o1 g1 b4 c4;subst b0;go_wp2
   go_roundw
   case rel=>exact ⟨k+1,_,by omega,by go_num,HR.out,HT.out,c2⟩
   case measure=>simp [intOf];omega
  ·go_wp2;go_ret;have b6:k=doc.length:=(by omega);subst b6;simp only [List.take_length,Nat.sub_self,yH,List.append_nil] at y O;exact ⟨_,rfl,⟨_,_,rfl,by unfold maxLen;omega,y,O⟩,N⟩
theorem aAA (v:Value) (zs:List Int) (w:World) (hv:Rd .i64 w.heap.size w v zs) (hn:zs.length<=4194304) :
  Calls prog 77 #[v] w fun e w'=>∃ Y,e=.returned Y/\Ow .i64 3 w.heap.size w' Y zs/\w.grownBy w' none:=by
 obtain ⟨i0,hi,L,N,S⟩:=info_parts aAH;obtain ⟨a,cap,rfl,U⟩:=hv
 go_enter func77,ntmps77
 go_wp2_with (at_make;refine wpList_make_full _ rfl _ _ 47 rfl w.heap.size 3 i0 (.int .i64 0) 1 underlying47 hi L N _ _ _ _ zs.length rfl rfl (by omega) (by omega) ?b2 ?b3 (Nat.le_refl _) ?_)
 case b2=>rw [S];omega
 case b3=>unfold maxLen;omega
 intro w0 E A;go_wp2
 go_loopw [4] (fun i wr=>∃ k:Nat,k<=zs.length/\i=.int .i64 k/\wr.ownsRow w.heap.size 3 1 (.slice (some ⟨w.heap.size,0,none⟩) zs.length zs.length) zs.length ((zs.take k++List.replicate (zs.length - k) 0).map (Value.int .i64))/\w.grownBy wr none)
  (fun i _=>zs.length - (intOf i).toNat)
 case atStart=>
  refine ⟨0,Nat.zero_le _,rfl,?_,A⟩;simpa [toList_madeCells_one,Value.cells] using E
 case round=>
  obtain ⟨k,hk,rfl,u,H⟩:=hrel
  by_cases G:k<zs.length
  ·obtain ⟨b,off,rfl,hb,X⟩:=U (fun h=>by simp [h] at G);have M:wr.cell? ⟨b,off+k,none⟩=some (.int .i64 (zs[k]?.getD 0)):=H.cell (X k G) (by simp)
   have a4:wr.cell? ⟨w.heap.size,k,none⟩=some (.int .i64 0):=by
    rw [World.ownsRow.cellAt u k (by omega)];simp [List.getElem?_append,List.getElem?_replicate,Nat.min_eq_left hk];omega
   have a7:=World.ownsRow.frozenAt u k;have y:=World.ownsRow.stored u k (.int .i64 (zs[k]?.getD 0));rw [aBR _ zs k G] at y;have J:=aU H y.2 (fun j Z=>by cases Z;exact Nat.le_refl _);have D:=y.1;clear y X U u hb;generalize zs[k]?.getD 0=z at M D J;go_wp2
   go_roundw
   case rel=>exact ⟨k+1,by omega,by go_num,D,J⟩
   case measure=>simp [intOf];omega
  ·go_wp2;go_ret;have O:k=zs.length:=(by omega);subst O;exact ⟨_,rfl,by unfold Ow;simpa using u,H⟩
theorem wO {j u:List Int} (k:Nat) (h:j[k]?.getD 0≠u[k]?.getD 0):decide (j=u)=false:=by
 simp only [decide_eq_false_iff_not];intro e;exact h (by rw [e])
theorem yC (va vb:Value) (j u:List Int) (w:World) (ha:Rd .u8 w.heap.size w va j) (hb:Rd .u8 w.heap.size w vb u) (hn:j.length<=600000000) :
  Calls prog 8 #[va,vb] w fun e w'=>e=.returned (.bool (decide (j=u)))/\∃ m,w'=w.drewN m:=by
 obtain ⟨a,a7,rfl,S⟩:=ha;obtain ⟨b,a8,rfl,N⟩:=hb
 by_cases U:j.length=u.length
 ·have Y:((j.length:Int) != (u.length:Int))=false:=(by simp [U]);have HL:Hid (j.length=u.length):=U;clear U
  go_enter func8,ntmps8
  go_wp2
  go_loopw [5] (fun i wr=>∃ k m:Nat,k<=j.length/\i=.int .i64 k/\j.take k=u.take k/\wr=w.drewN m)
   (fun i _=>j.length - (intOf i).toNat)
  case atStart=>exact ⟨0,0,Nat.zero_le _,rfl,by simp,rfl⟩
  case round=>
   obtain ⟨k,m,hk,rfl,J,Z⟩:=hrel;subst Z
   by_cases A:k<j.length
   ·have y:k<u.length:=(by rw [<- HL.out];exact A);obtain ⟨ba,a6,rfl,b4,L⟩:=S (fun h=>by simp [h] at A);obtain ⟨bb,a9,rfl,b8,X⟩:=N (fun h=>by simp [h] at y);have M:=L k A;have H:=X k y;have E:=dF j k A;have G:=dF u k y;have b7:(k:Int)<(j.length:Int):=(by omega);have b1:(k:Int)<(u.length:Int):=(by omega);clear L X S N
    by_cases D:j[k]?.getD 0=u[k]?.getD 0
    ·have HT:Hid (j.take (k+1)=u.take (k+1)):=(by unfold Hid;rw [E,G,J,D]);clear E G J;rw [<- D] at H;clear D;generalize j[k]?.getD 0=z at M H;go_wp2
     go_quiet (fail)
     go_wp2
     go_roundw
     case rel=>exact ⟨k+1,_,by omega,by go_num,HT.out,rfl⟩
     case measure=>simp [intOf];omega
    ·have O:Hid (decide (j=u)=false):=wO k D;generalize j[k]?.getD 0=z at M D;generalize u[k]?.getD 0=z2 at H D;clear E G J;have b5:(z != z2)=true:=(by simp [D]);clear D;go_wp2
     go_quiet (fail)
     go_wp2;go_ret;exact ⟨by rw [O.out];rfl,m+nq,by rw [World.drewN_drewN]⟩
   ·have O:Hid (decide (j=u)=true):=by
     unfold Hid;rw [List.take_of_length_le (by omega),List.take_of_length_le (by have:=HL.out;omega)] at J;simp [J]
    clear J;go_wp2;go_ret;exact ⟨by rw [O.out];rfl,_,rfl⟩
 ·have Y:((j.length:Int) != (u.length:Int))=true:=by simp;omega
  have O:Hid (decide (j=u)=false):=by
   unfold Hid;simp only [decide_eq_false_iff_not];intro e;exact U (by rw [e])
  clear U
  go_enter func8,ntmps8
  go_wp2;go_ret;exact ⟨by rw [O.out];rfl,0,rfl⟩
theorem wG (j h:Value) (zs:List Int) (w:World) (A:Rd .u8 w.heap.size w j zs) (y:Rd .u8 w.heap.size w h zs) (u:zs.length<=600000000) :
  Calls prog 8 #[j,h] w fun e w'=>e=.returned (.bool true)/\w.grownBy w' none:=by
 refine (yC j h zs zs w A y u).mono ?_;rintro e w' ⟨rfl,m,rfl⟩;exact ⟨by simp,dT (World.grownBy.refl _ _) m⟩
theorem aAg (p:Cm) (E A:Value) (w:World) (G:RdB w.heap.size w E p.t) (D:RdB w.heap.size w A p.t) (O:p.t.length<=1048576) :
  Calls prog 56 #[.agg #[.bool p.b,E],.agg #[.bool p.b,A]] w fun e w'=>e=.returned (.bool true)/\w.grownBy w' none:=by
 obtain ⟨a1,H,h,_⟩:=id G;obtain ⟨a2,y,j,_⟩:=id D;have u:∀ M L:Obj,w.grownBy ((w.alloc M).alloc L) none:=fun _ _=>aA gWA gWA;have J:(p.b != p.b)=false:=(by simp);subst h j
 go_enter func56,ntmps56
 go_wp2_with fail
 refine (yC _ _ p.t p.t _ (G.K (u _ _)).now (D.K (u _ _)).now (by omega)).mono ?_;rintro e N ⟨rfl,m,rfl⟩;simp only [decide_true];go_wp2;go_ret;exact ⟨rfl,dT (u _ _) m⟩
theorem lV (va vb:Value) (doc:List Cm) (w:World) (Y:RdC w.heap.size w va doc) (hb:RdC w.heap.size w vb doc) (hn:doc.length<=1048576) (ht:∀ p∈doc,p.t.length<=1048576) :
  Calls prog 26 #[va,vb] w fun e w'=>e=.returned (.bool true)/\w.grownBy w' none:=by
 obtain ⟨a1,b9,a6,_⟩:=id Y;obtain ⟨a2,b6,a7,_⟩:=id hb;have c9:((doc.length:Int) != (doc.length:Int))=false:=(by simp);subst a6 a7
 go_enter func26,ntmps26
 go_wp2
 go_loopw [5] (fun i wr=>∃ k:Nat,k<=doc.length/\i=.int .i64 k/\w.grownBy wr none) (fun i _=>doc.length - (intOf i).toNat)
 case atStart=>exact ⟨0,Nat.zero_le _,rfl,World.grownBy.refl _ _⟩
 case round=>
  obtain ⟨k,hk,rfl,h⟩:=hrel
  by_cases A:k<doc.length
  ·obtain ⟨b1,b3,a8,d0,M,c4,u⟩:=(Y.K h).at k A;obtain ⟨b2,b7,a4,c6,U,c3,j⟩:=(hb.K h).at k A;cases M;cases U;have k1:=u.k;have t1:=u.t;have k2:=j.k;have t2:=j.t;have y:=u.rd;have E:=j.rd;obtain ⟨a5,D,N,_,_⟩:=u.sl;obtain ⟨Z,G,L,_,_⟩:=j.sl;have O:=ht _ (List.getElem_mem A);have J:=h.size;clear Y hb u j ht;subst N L;generalize doc[k]=p at k1 t1 k2 t2 y E O
   have H:Hid (∀ w':World,wr.grownBy w' none->Calls prog 56 #[.agg #[.bool p.b,.slice a5 p.t.length D],.agg #[.bool p.b,.slice Z p.t.length G]] w' fun e X=>e=.returned (.bool true)/\w'.grownBy X none):=by
    intro w' S;exact aAg p _ _ w' (y.wideC J |>.K S).now (E.wideC J |>.K S).now O
   have HG:Hid (w.grownBy wr none):=h;clear y E h;go_wp2;have HD:Hid (wr.grownBy wr.drew none):=⟨rfl,rfl,rfl,Nat.le_refl _,fun _ _ _=>rfl⟩
   go_region_with (go_at_call 56;refine (H.out wr.drew HD.out).mono ?_;rintro e w1 ⟨rfl,g1⟩)
   all_goals
    go_wp2
    go_roundw
    case rel=>exact ⟨k+1,by omega,by go_num,aA (aA HG.out HD.out) g1⟩
    case measure=>simp [intOf];omega
  ·go_wp2;go_ret;exact ⟨rfl,h⟩
theorem yO {j u:List Int} (k:Nat) (h:j[k]?.getD 0≠u[k]?.getD 0):decide (j=u)=false:=by
 simp only [decide_eq_false_iff_not];intro e;exact h (by rw [e])
theorem aFe (va vb:Value) (j u:List Int) (w:World) (ha:Rd .i64 w.heap.size w va j) (hb:Rd .i64 w.heap.size w vb u) (hn:j.length<=600000000) :
  Calls prog 99 #[va,vb] w fun e w'=>e=.returned (.bool (decide (j=u)))/\∃ m,w'=w.drewN m:=by
 obtain ⟨a,a7,rfl,S⟩:=ha;obtain ⟨b,a8,rfl,N⟩:=hb
 by_cases U:j.length=u.length
 ·have Y:((j.length:Int) != (u.length:Int))=false:=(by simp [U]);have HL:Hid (j.length=u.length):=U;clear U
  go_enter func99,ntmps99
  go_wp2
  go_loopw [5] (fun i wr=>∃ k m:Nat,k<=j.length/\i=.int .i64 k/\j.take k=u.take k/\wr=w.drewN m)
   (fun i _=>j.length - (intOf i).toNat)
  case atStart=>exact ⟨0,0,Nat.zero_le _,rfl,by simp,rfl⟩
  case round=>
   obtain ⟨k,m,hk,rfl,J,Z⟩:=hrel;subst Z
   by_cases A:k<j.length
   ·have y:k<u.length:=(by rw [<- HL.out];exact A);obtain ⟨ba,a6,rfl,b4,L⟩:=S (fun h=>by simp [h] at A);obtain ⟨bb,a9,rfl,b8,X⟩:=N (fun h=>by simp [h] at y);have M:=L k A;have H:=X k y;have E:=dF j k A;have G:=dF u k y;have b7:(k:Int)<(j.length:Int):=(by omega);have b1:(k:Int)<(u.length:Int):=(by omega);clear L X S N
    by_cases D:j[k]?.getD 0=u[k]?.getD 0
    ·have HT:Hid (j.take (k+1)=u.take (k+1)):=(by unfold Hid;rw [E,G,J,D]);clear E G J;rw [<- D] at H;clear D;generalize j[k]?.getD 0=z at M H;go_wp2
     go_quiet (fail)
     go_wp2
     go_roundw
     case rel=>exact ⟨k+1,_,by omega,by go_num,HT.out,rfl⟩
     case measure=>simp [intOf];omega
    ·have O:Hid (decide (j=u)=false):=yO k D;generalize j[k]?.getD 0=z at M D;generalize u[k]?.getD 0=z2 at H D;clear E G J;have b5:(z != z2)=true:=(by simp [D]);clear D;go_wp2
     go_quiet (fail)
     go_wp2;go_ret;exact ⟨by rw [O.out];rfl,m+nq,by rw [World.drewN_drewN]⟩
   ·have O:Hid (decide (j=u)=true):=by
     unfold Hid;rw [List.take_of_length_le (by omega),List.take_of_length_le (by have:=HL.out;omega)] at J;simp [J]
    clear J;go_wp2;go_ret;exact ⟨by rw [O.out];rfl,_,rfl⟩
 ·have Y:((j.length:Int) != (u.length:Int))=true:=by simp;omega
  have O:Hid (decide (j=u)=false):=by
   unfold Hid;simp only [decide_eq_false_iff_not];intro e;exact U (by rw [e])
  clear U
  go_enter func99,ntmps99
  go_wp2;go_ret;exact ⟨by rw [O.out];rfl,0,rfl⟩
theorem yD (j h:Value) (zs:List Int) (w:World) (A:Rd .i64 w.heap.size w j zs) (y:Rd .i64 w.heap.size w h zs) (u:zs.length<=600000000) :
  Calls prog 99 #[j,h] w fun e w'=>e=.returned (.bool true)/\w.grownBy w' none:=by
 refine (aFe j h zs zs w A y u).mono ?_;rintro e w' ⟨rfl,m,rfl⟩;exact ⟨by simp,dT (World.grownBy.refl _ _) m⟩
structure NOk (p:Nod):Prop where
 L:p.L.length<=1048576
 leads:∀ c∈p.L,c.t.length<=1048576
 key:p.key.length<=1048576
 X:p.X.length<=1048576
 U:p.U.length<=1048576
 tail:p.tail.length<=1048576
 tails:∀ c∈p.tail,c.t.length<=1048576
structure NRd (B:Nat) (w:World) (p:Nod) (lv kv xv uv tv:Value):Prop where
 rl:RdC B w lv p.L
 rk:RdI B w kv p.key
 rx:RdB B w xv p.X
 ru:RdI B w uv p.U
 rt:RdC B w tv p.tail
theorem NRd.K {B:Nat} {w w':World} {p:Nod} {lv A y u tv:Value} (h:NRd B w p lv A y u tv) (j:w.grownBy w' none):NRd B w' p lv A y u tv:=
 ⟨h.rl.K j,h.rk.K j,h.rx.K j,h.ru.K j,h.rt.K j⟩
theorem NRd.wide {B B':Nat} {w:World} {p:Nod} {lv A u y tv:Value} (h:NRd B w p lv A u y tv) (j:B<=B'):NRd B' w p lv A u y tv:=
 ⟨h.rl.wide j,h.rk.wideC j,h.rx.wideC j,h.ru.wideC j,h.rt.wide j⟩
theorem aA0.rd {B:Nat} {w:World} {b o:Nat} {p:Nod} {lv y u j tv:Value} (h:aA0 B w b o p lv y u j tv):NRd B w p lv y u j tv:=⟨h.rl,h.rk,h.rx,h.ru,h.rt⟩
theorem nU {w j:World} {a b c d e f g h E G A y L D H J:Value} {t M:TypeId} (u:((w.alloc (.cells #[a,b,c,d,e,f,g,h] t)).alloc (.cells #[E,G,A,y,L,D,H,J] M)).grownBy j none) :
  (j.cell? ⟨w.heap.size,0,none⟩=some a/\j.cell? ⟨w.heap.size,1,none⟩=some b/\j.cell? ⟨w.heap.size,2,none⟩=some c/\j.cell? ⟨w.heap.size,3,none⟩=some d/\
  j.cell? ⟨w.heap.size,4,none⟩=some e/\j.cell? ⟨w.heap.size,5,none⟩=some f/\j.cell? ⟨w.heap.size,6,none⟩=some g/\j.cell? ⟨w.heap.size,7,none⟩=some h)/\
  (j.cell? ⟨w.heap.size+1,0,none⟩=some E/\j.cell? ⟨w.heap.size+1,1,none⟩=some G/\j.cell? ⟨w.heap.size+1,2,none⟩=some A/\j.cell? ⟨w.heap.size+1,3,none⟩=some y/\
  j.cell? ⟨w.heap.size+1,4,none⟩=some L/\j.cell? ⟨w.heap.size+1,5,none⟩=some D/\j.cell? ⟨w.heap.size+1,6,none⟩=some H/\j.cell? ⟨w.heap.size+1,7,none⟩=some J):=
 ⟨⟨u.cell (by simp [go_sem]) (by simp),u.cell (by simp [go_sem]) (by simp),u.cell (by simp [go_sem]) (by simp),u.cell (by simp [go_sem]) (by simp),
  u.cell (by simp [go_sem]) (by simp),u.cell (by simp [go_sem]) (by simp),u.cell (by simp [go_sem]) (by simp),u.cell (by simp [go_sem]) (by simp)⟩,
  ⟨u.cell (by simp [go_sem]) (by simp),u.cell (by simp [go_sem]) (by simp),u.cell (by simp [go_sem]) (by simp),u.cell (by simp [go_sem]) (by simp),
   u.cell (by simp [go_sem]) (by simp),u.cell (by simp [go_sem]) (by simp),u.cell (by simp [go_sem]) (by simp),u.cell (by simp [go_sem]) (by simp)⟩⟩
theorem aEl (p:Nod) (lv kv xv uv tv N u S M tv':Value) (w:World) (h:NRd w.heap.size w p lv kv xv uv tv) (E:NRd w.heap.size w p N u S M tv') (b7:NOk p) :
  Calls prog 55 #[.agg #[.int .i64 p.k,lv,.bool p.mem,kv,xv,uv,.int .i64 p.C,tv],.agg #[.int .i64 p.k,N,.bool p.mem,u,S,M,.int .i64 p.C,tv']] w fun e w'=>e=.returned (.bool true)/\w.grownBy w' none:=by
 have f4:∀ (x:Bool) (w:World),(Op.unary .not (.bool x)).run prog w=.ok (.bool (!x)) w:=fun _ _=>rfl;have g7:(p.k != p.k)=false:=(by simp);have g9:(p.mem != p.mem)=false:=(by simp);have h1:(p.C != p.C)=false:=(by simp);have gA:w.grownBy ((w.alloc (.cells #[.int .i64 p.k,lv,.bool p.mem,kv,xv,uv,.int .i64 p.C,tv] 49)).alloc (.cells #[.int .i64 p.k,N,.bool p.mem,u,S,M,.int .i64 p.C,tv'] 49)) none:=aA gWA gWA;obtain ⟨la,f7,d4,_,_⟩:=h.rl.sl;obtain ⟨ta,g6,c4,_,_⟩:=h.rt.sl;obtain ⟨ka,f6,c6,_⟩:=id h.rk;obtain ⟨xa,f9,d1,_⟩:=id h.rx;obtain ⟨ua,f5,d0,_⟩:=id h.ru;obtain ⟨g8,c8,b6,_,_⟩:=E.rl.sl;obtain ⟨h5,d3,b3,_,_⟩:=E.rt.sl;obtain ⟨h0,c5,b8,_⟩:=id E.rk;obtain ⟨h2,d5,b9,_⟩:=id E.rx;obtain ⟨h4,d2,c2,_⟩:=id E.ru;have H:=aB (fun W (hW:w.grownBy W none)=>(h.K hW).wide hW.size);have H':=aB (fun W (hW:w.grownBy W none)=>(E.K hW).wide hW.size);have j:=aB gA;have HO:=aB b7;subst d4 c4 c6 d1 d0 b6 b3 b8 b9 c2;clear h E gA b7;generalize p.k=kk at *;generalize p.C=cn at *;generalize p.mem=mm at *
 go_enter func55,ntmps55
 go_wp2_with fail
 refine (lV _ _ p.L _ (H.out _ j.out).rl (H'.out _ j.out).rl HO.out.L HO.out.leads).mono ?_;rintro e w1 ⟨rfl,g1⟩;obtain ⟨⟨z0,y,Z,z3,z4,z5,z6,O⟩,⟨Y,y1,G,J,y4,D,A,y7⟩⟩:=nU g1;have G1:=aB g1;clear g1
 go_wp2_with fail
 refine (yD _ _ p.key _ (H.out _ (aA j.out G1.out)).rk (H'.out _ (aA j.out G1.out)).rk (by have:=HO.out.key;omega)).mono ?_;rintro e w2 ⟨rfl,g2⟩;have G2:=aB (aA G1.out g2);clear z0 y Z z3 z4 z5 z6 O Y y1 G J y4 D A y7 G1 g2;obtain ⟨⟨z0,y,Z,z3,z4,z5,z6,O⟩,⟨Y,y1,G,J,y4,D,A,y7⟩⟩:=nU G2.out
 go_wp2_with fail
 refine (wG _ _ p.X _ (H.out _ (aA j.out G2.out)).rx (H'.out _ (aA j.out G2.out)).rx (by have:=HO.out.X;omega)).mono ?_;rintro e w3 ⟨rfl,g3⟩;have G3:=aB (aA G2.out g3);clear z0 y Z z3 z4 z5 z6 O Y y1 G J y4 D A y7 G2 g3;obtain ⟨⟨z0,y,Z,z3,z4,z5,z6,O⟩,⟨Y,y1,G,J,y4,D,A,y7⟩⟩:=nU G3.out
 go_wp2_with fail
 refine (yD _ _ p.U _ (H.out _ (aA j.out G3.out)).ru (H'.out _ (aA j.out G3.out)).ru (by have:=HO.out.U;omega)).mono ?_;rintro e w4 ⟨rfl,g4⟩;have G4:=aB (aA G3.out g4);clear z0 y Z z3 z4 z5 z6 O Y y1 G J y4 D A y7 G3 g4;obtain ⟨⟨z0,y,Z,z3,z4,z5,z6,O⟩,⟨Y,y1,G,J,y4,D,A,y7⟩⟩:=nU G4.out
 go_wp2_with fail
 refine (lV _ _ p.tail _ (H.out _ (aA j.out G4.out)).rt (H'.out _ (aA j.out G4.out)).rt HO.out.tail HO.out.tails).mono ?_;rintro e w5 ⟨rfl,g5⟩;have G5:=aB (aA j.out (aA G4.out g5));clear z0 y Z z3 z4 z5 z6 O Y y1 G J y4 D A y7 G4 g5;go_wp2;go_ret;exact ⟨rfl,G5.out⟩
end Go.Proofs.YtgifkcpdihphlaaGreatDoor
