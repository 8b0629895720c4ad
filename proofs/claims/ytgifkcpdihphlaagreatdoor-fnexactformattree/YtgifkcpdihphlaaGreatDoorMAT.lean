import Derived.Test.YtgifkcpdihphlaaGreatDoorMAS
set_option maxHeartbeats 16000000
set_option maxRecDepth 100000
namespace Go.Proofs.YtgifkcpdihphlaaGreatDoor
open Tryz
open Go.RowKit
def Zo (B:Nat) (w:World) (r:Option Nat) (b:Nat):Prop:=B<=b/\b<w.heap.size/\some b≠r
def TxR (B:Nat) (w:World) (r:Option Nat) (tv:Value) (t:List Int):Prop:=
 ∃ a cap,tv=.slice a t.length cap/\t.length<=cap/\cap<=maxLen/\(t≠[]->∃ b off,a=some ⟨b,off,none⟩/\Zo B w r b/\∀ j,j<t.length->w.cell? ⟨b,off+j,none⟩=some (.int .u8 (t[j]?.getD 0)))
def PcR (B:Nat) (w:World) (r:Option Nat) (b o:Nat) (p:Pc):Prop:=
 ∃ tv,w.cell? ⟨b,o,none⟩=some (.int .i64 p.k)/\w.cell? ⟨b,o+1,none⟩=some tv/\w.cell? ⟨b,o+2,none⟩=some (.int .i64 p.n)/\TxR B w r tv p.t
def PiR (B:Nat) (w:World) (r:Option Nat) (v:Value) (ps:List Pc):Prop:=
 ∃ a cap,v=.slice a ps.length cap/\ps.length<=cap/\cap<=maxLen/\(ps≠[]->∃ b off,a=some ⟨b,off,none⟩/\Zo B w r b/\∀ j p,ps[j]?=some p->PcR B w r b (off+j*3) p)
def DiR (B:Nat) (w:World) (r:Option Nat) (v:Value) (dss:List (List Pc)):Prop:=
 ∃ a cap,v=.slice a dss.length cap/\dss.length<=cap/\cap<=maxLen/\(dss≠[]->∃ b off,a=some ⟨b,off,none⟩/\Zo B w r b/\∀ j ds,dss[j]?=some ds->∃ u,w.cell? ⟨b,off+j,none⟩=some u/\PiR B w r u ds)
theorem Zo.row {B b:Nat} {w w':World} {r:Option Nat} (h:Zo B w r b) (g:w.grownBy w' r):Zo B w' r b:=⟨h.1,Nat.lt_of_lt_of_le h.2.1 g.size,h.2.2⟩
theorem TxR.row {B:Nat} {w w':World} {r:Option Nat} {tv:Value} {t:List Int} (h:TxR B w r tv t) (g:w.grownBy w' r):TxR B w' r tv t:=by
 obtain ⟨a,cap,e,A,G,D⟩:=h;refine ⟨a,cap,e,A,G,fun H=>?_⟩;obtain ⟨b,off,E,u,y⟩:=D H;exact ⟨b,off,E,u.row g,fun j J=>g.cell (y j J) u.2.2⟩
theorem PcR.row {B:Nat} {w w':World} {r:Option Nat} {b o:Nat} {p:Pc} (h:PcR B w r b o p) (j:some b≠r) (g:w.grownBy w' r):PcR B w' r b o p:=by
 obtain ⟨tv,A,D,y,u⟩:=h;exact ⟨tv,g.cell A j,g.cell D j,g.cell y j,u.row g⟩
theorem PiR.row {B:Nat} {w w':World} {r:Option Nat} {v:Value} {ps:List Pc} (h:PiR B w r v ps) (g:w.grownBy w' r):PiR B w' r v ps:=by
 obtain ⟨a,cap,e,A,H,E⟩:=h;refine ⟨a,cap,e,A,H,fun J=>?_⟩;obtain ⟨b,off,G,u,y⟩:=E J;exact ⟨b,off,G,u.row g,fun j p D=>(y j p D).row u.2.2 g⟩
theorem TxR.turn {B B':Nat} {w:World} {r j:Option Nat} {tv:Value} {t:List Int} (h:TxR B w r tv t) (f:∀ b,Zo B w r b->Zo B' w j b):TxR B' w j tv t:=by
 obtain ⟨a,cap,e,y,G,D⟩:=h;refine ⟨a,cap,e,y,G,fun H=>?_⟩;obtain ⟨b,off,E,A,u⟩:=D H;exact ⟨b,off,E,f b A,u⟩
theorem PcR.turn {B B':Nat} {w:World} {r j:Option Nat} {b o:Nat} {p:Pc} (h:PcR B w r b o p) (f:∀ b,Zo B w r b->Zo B' w j b):PcR B' w j b o p:=by
 obtain ⟨tv,A,D,y,u⟩:=h;exact ⟨tv,A,D,y,u.turn f⟩
theorem PiR.turn {B B':Nat} {w:World} {r u:Option Nat} {v:Value} {ps:List Pc} (h:PiR B w r v ps) (f:∀ b,Zo B w r b->Zo B' w u b):PiR B' w u v ps:=by
 obtain ⟨a,cap,e,A,J,G⟩:=h;refine ⟨a,cap,e,A,J,fun L=>?_⟩;obtain ⟨b,off,H,D,y⟩:=G L;exact ⟨b,off,H,f b D,fun j p E=>(y j p E).turn f⟩
theorem Zo.base {B B':Nat} {w:World} {r:Option Nat} (j:B'<=B):∀ b,Zo B w r b->Zo B' w r b:=fun _ h=>⟨Nat.le_trans j h.1,h.2.1,h.2.2⟩
theorem Zo.off {B:Nat} {w:World} {r:Option Nat} : ∀ b,Zo B w r b->Zo B w none b:=fun _ h=>⟨h.1,h.2.1,by simp⟩
theorem Zo.on {B B':Nat} {w:World} {r:Option Nat} (x:Option Nat) (j:B'<=B) (u:∀ k,x=some k->k<B\/w.heap.size<=k):∀ b,Zo B w r b->Zo B' w x b:=
 fun b h=>⟨Nat.le_trans j h.1,h.2.1,fun e=>by have:=u b e.symm;have A:=h.1;have y:=h.2.1;omega⟩
theorem TxR.K {B:Nat} {w w':World} {r:Option Nat} {tv:Value} {t:List Int} (h:TxR B w r tv t) (g:w.grownBy w' none):TxR B w' r tv t:=by
 obtain ⟨a,cap,e,A,G,D⟩:=h;refine ⟨a,cap,e,A,G,fun H=>?_⟩;obtain ⟨b,off,E,u,y⟩:=D H;exact ⟨b,off,E,⟨u.1,Nat.lt_of_lt_of_le u.2.1 g.size,u.2.2⟩,fun j J=>g.cell (y j J) (by simp)⟩
theorem PcR.K {B:Nat} {w w':World} {r:Option Nat} {b o:Nat} {p:Pc} (h:PcR B w r b o p) (g:w.grownBy w' none):PcR B w' r b o p:=by
 obtain ⟨tv,u,y,A,j⟩:=h;exact ⟨tv,g.cell u (by simp),g.cell y (by simp),g.cell A (by simp),j.K g⟩
theorem PiR.K {B:Nat} {w w':World} {r:Option Nat} {v:Value} {ps:List Pc} (h:PiR B w r v ps) (g:w.grownBy w' none):PiR B w' r v ps:=by
 obtain ⟨a,cap,e,A,H,E⟩:=h;refine ⟨a,cap,e,A,H,fun J=>?_⟩;obtain ⟨b,off,G,u,y⟩:=E J;exact ⟨b,off,G,⟨u.1,Nat.lt_of_lt_of_le u.2.1 g.size,u.2.2⟩,fun j p D=>(y j p D).K g⟩
theorem TxR.nil (B:Nat) (w:World) (r:Option Nat):TxR B w r (.slice none 0 0) []:=⟨none,0,rfl,Nat.le_refl _,by unfold maxLen;omega,fun h=>absurd rfl h⟩
theorem TxR.rd {B:Nat} {w:World} {r:Option Nat} {tv:Value} {t:List Int} (h:TxR B w r tv t):RdB w.heap.size w tv t:=by
 obtain ⟨a,cap,e,E,G,y⟩:=h;refine ⟨a,cap,e,fun D=>?_⟩;obtain ⟨b,off,u,A,j⟩:=y D;exact ⟨b,off,u,A.2.1,j⟩
theorem TxR.sl {B:Nat} {w:World} {r:Option Nat} {tv:Value} {t:List Int} (h:TxR B w r tv t):Sl tv t.length:=by
 obtain ⟨a,cap,e,j,u,y⟩:=h;exact ⟨a,cap,e,j,u⟩
theorem aJz {B:Nat} {w:World} {r:Option Nat} {tv:Value} {t:List Int} (h:OwB B w tv t) (H:∀ b,tv.ownBlock=some b->some b≠r):TxR B w r tv t:=by
 obtain ⟨a,cap,e,G,L⟩:=h.sl;refine ⟨a,cap,e,G,L,fun N=>?_⟩;obtain ⟨S,A,y,u⟩:=h.rd;rw [e] at y;simp only [Value.slice.injEq] at y;obtain ⟨rfl,_,rfl⟩:=y;obtain ⟨b,off,j,J,E⟩:=u N;rcases h.2 with ⟨hv,O⟩ | ⟨g,D,M,hv,U,_⟩
 ·rw [e] at hv;simp only [Value.slice.injEq] at hv;rw [hv.1] at j;cases j
 ·rw [e] at hv;simp only [Value.slice.injEq] at hv;obtain ⟨hv,_,_⟩:=hv;rw [j] at hv;simp only [Option.some.injEq,Addr.mk.injEq] at hv;refine ⟨b,off,j,⟨by omega,J,?_⟩,E⟩;refine H b ?_;rw [e,j];rw [hv.2.1];rfl
theorem PiR.rdP {B:Nat} {w:World} {r:Option Nat} {v:Value} {ps:List Pc} (h:PiR B w r v ps):RdP w.heap.size w v ps:=by
 obtain ⟨a,cap,e,A,N,L⟩:=h;refine ⟨a,cap,e,A,N,fun O=>?_⟩;obtain ⟨b,off,M,D,y⟩:=L O;refine ⟨b,off,M,D.2.1,fun j p J=>?_⟩;obtain ⟨tv,H,E,G,u⟩:=y j p J;exact ⟨tv,H,E,G,u.rd,u.sl⟩
def PoR (B:Nat) (w:World) (v:Value) (ps:List Pc):Prop:=
 ∃ xs:List Value,w.ownsRow B 74 3 v ps.length xs/\∀ (j:Nat) (p:Pc),ps[j]?=some p->∃ tv,xs[j*3]?=some (.int .i64 p.k)/\xs[j*3+1]?=some tv/\xs[j*3+2]?=some (.int .i64 p.n)/\TxR B w v.ownBlock tv p.t
def DoR (B:Nat) (w:World) (v:Value) (dss:List (List Pc)):Prop:=
 ∃ xs:List Value,w.ownsRow B 44 1 v dss.length xs/\∀ (j:Nat) (ds:List Pc),dss[j]?=some ds->∃ u,xs[j]?=some u/\PiR B w v.ownBlock u ds
theorem PoR.K {B:Nat} {w w':World} {v:Value} {ps:List Pc} (h:PoR B w v ps) (g:w.grownBy w' none):PoR B w' v ps:=by
 obtain ⟨xs,E,u⟩:=h;refine ⟨xs,World.ownsRow.kept E g (by cases v.ownBlock<;>simp),fun j p A=>?_⟩;obtain ⟨tv,G,H,D,y⟩:=u j p A;exact ⟨tv,G,H,D,y.K g⟩
theorem DoR.K {B:Nat} {w w':World} {v:Value} {y:List (List Pc)} (h:DoR B w v y) (g:w.grownBy w' none):DoR B w' v y:=by
 obtain ⟨xs,E,A⟩:=h;refine ⟨xs,World.ownsRow.kept E g (by cases v.ownBlock<;>simp),fun j p D=>?_⟩;obtain ⟨u,G,H⟩:=A j p D;exact ⟨u,G,H.K g⟩
theorem PoR.nil (B:Nat) (w:World):PoR B w (.slice none 0 0) []:=⟨[],⟨by simp,.inl ⟨rfl,rfl⟩⟩,fun j p h=>by simp at h⟩
theorem DoR.nil (B:Nat) (w:World):DoR B w (.slice none 0 0) []:=⟨[],⟨by simp,.inl ⟨rfl,rfl⟩⟩,fun j p h=>by simp at h⟩
theorem aAj {B:Nat} {w:World} {e:TypeId} {size n:Nat} {v:Value} {xs:List Value} (h:w.ownsRow B e size v n xs):∃ a cap,v=.slice a n cap:=by
 rcases h.2 with ⟨hv,u⟩ | ⟨g,cap,j,hv,_⟩
 ·exact ⟨none,0,by rw [hv,u]⟩
 ·exact ⟨_,cap,hv⟩
theorem PoR.base {B B':Nat} {w:World} {v:Value} {ps:List Pc} (h:PoR B w v ps) (u:B'<=B):PoR B' w v ps:=by
 obtain ⟨xs,G,y⟩:=h;refine ⟨xs,bH u G,fun j p D=>?_⟩;obtain ⟨tv,H,J,E,A⟩:=y j p D;exact ⟨tv,H,J,E,A.turn (Zo.base u)⟩
theorem PoR.pi {B:Nat} {w:World} {v:Value} {ps:List Pc} (h:PoR B w v ps):PiR B w none v ps:=by
 obtain ⟨xs,u,J⟩:=h;rcases id u.2 with ⟨hv,D⟩ | ⟨g,cap,N,hv,U,G,y,A,_⟩
 ·refine ⟨none,0,by rw [hv,D],by omega,by unfold maxLen;omega,fun H=>absurd (List.eq_nil_of_length_eq_zero D) H⟩
 ·refine ⟨_,cap,hv,y,A,fun H=>⟨g,0,rfl,?_,fun j p E=>?_⟩⟩
  ·have:=World.ownsRow.lt u g (by rw [hv];rfl);exact ⟨this.1,this.2,by simp⟩
  ·obtain ⟨tv,S,O,M,L⟩:=J j p E;have X:=(List.getElem?_eq_some_iff.1 E).1;rw [hv] at u;refine ⟨tv,?_,?_,?_,L.turn Zo.off⟩
   ·rw [Nat.zero_add,World.ownsRow.cellAt u (j*3) (by omega)];exact S
   ·rw [Nat.zero_add,World.ownsRow.cellAt u (j*3+1) (by omega)];exact O
   ·rw [Nat.zero_add,World.ownsRow.cellAt u (j*3+2) (by omega)];exact M
theorem DoR.di {B:Nat} {w:World} {v:Value} {y:List (List Pc)} (h:DoR B w v y):DiR B w none v y:=by
 obtain ⟨xs,A,M⟩:=h;rcases id A.2 with ⟨hv,G⟩ | ⟨g,cap,N,hv,U,J,D,E,_⟩
 ·refine ⟨none,0,by rw [hv,G],by omega,by unfold maxLen;omega,fun L=>absurd (List.eq_nil_of_length_eq_zero G) L⟩
 ·refine ⟨_,cap,hv,D,E,fun L=>⟨g,0,rfl,?_,fun j p H=>?_⟩⟩
  ·have:=World.ownsRow.lt A g (by rw [hv];rfl);exact ⟨this.1,this.2,by simp⟩
  ·obtain ⟨u,S,O⟩:=M j p H;have X:=(List.getElem?_eq_some_iff.1 H).1;rw [hv] at A;exact ⟨u,by rw [Nat.zero_add,World.ownsRow.cellAt A j (by omega)];exact S,O.turn Zo.off⟩
theorem aII:(prog.info? 74).map (fun i=>(i.zero,i.size,i.bytes))=some (some (.agg #[.int .i64 0,.slice none 0 0,.int .i64 0]),3,40):=by kernel_rfl
theorem aLC:(prog.info? 44).map (fun i=>(i.zero,i.size,i.bytes))=some (some (.slice none 0 0),1,24):=by kernel_rfl
def pcC (p:Pc) (tv:Value):List Value:=[.int .i64 p.k,tv,.int .i64 p.n]
def mE:List Pc->List Value->List Value
 | p::ps,tv::tvs=>pcC p tv++mE ps tvs
 | _,_=>[]
theorem aDJ:∀ (ps:List Pc) (j:List Value),j.length=ps.length->(mE ps j).length=ps.length*3
 | [],[],_=>rfl
 | _::ps,_::j,h=>by simp only [List.length_cons,Nat.add_right_cancel_iff] at h;simp only [mE,pcC,List.length_append,List.length_cons,List.length_nil,aDJ ps j h];omega
 | [],_::_,h=>by simp at h
 | _::_,[],h=>by simp at h
theorem uM:∀ (ps:List Pc) (h:List Value) (j:Nat) (p:Pc) (tv:Value),ps[j]?=some p->h[j]?=some tv->(mE ps h)[j*3]?=some (.int .i64 p.k)/\(mE ps h)[j*3+1]?=some tv/\(mE ps h)[j*3+2]?=some (.int .i64 p.n)
 | p0::ps,t0::h,0,p,tv,hp,ht=>by simp at hp ht;subst hp ht;exact ⟨rfl,rfl,rfl⟩
 | p0::ps,t0::h,j+1,p,tv,hp,ht=>by
   obtain ⟨y,A,u⟩:=uM ps h j p tv (by simpa using hp) (by simpa using ht);refine ⟨?_,?_,?_⟩
   ·rw [show (j+1)*3=j*3+3 by omega];simpa [mE,pcC] using y
   ·rw [show (j+1)*3+1=(j*3+1)+3 by omega];simpa [mE,pcC] using A
   ·rw [show (j+1)*3+2=(j*3+2)+3 by omega];simpa [mE,pcC] using u
 | [],_,_,_,_,hp,_=>by simp at hp
 | _::_,[],_,_,_,_,ht=>by simp at ht
theorem aAE:∀ (ps:List Pc) (y:List Value),y.length=ps.length->∀ (i:Nat) (u:Value),(mE ps y)[i]?=some u->∃ (j:Nat) (p:Pc) (tv:Value),ps[j]?=some p/\y[j]?=some tv/\((i=j*3/\u=.int .i64 p.k)\/(i=j*3+1/\u=tv)\/(i=j*3+2/\u=.int .i64 p.n))
 | [],[],_,i,u,h=>by simp [mE] at h
 | p::ps,tv::y,hl,i,u,h=>by
   simp only [List.length_cons,Nat.add_right_cancel_iff] at hl
   match i,h with
   | 0,h=>simp [mE,pcC] at h;exact ⟨0,p,tv,rfl,rfl,.inl ⟨rfl,h.symm⟩⟩
   | 1,h=>simp [mE,pcC] at h;exact ⟨0,p,tv,rfl,rfl,.inr (.inl ⟨rfl,h.symm⟩)⟩
   | 2,h=>simp [mE,pcC] at h;exact ⟨0,p,tv,rfl,rfl,.inr (.inr ⟨rfl,h.symm⟩)⟩
   | i+3,h=>
     obtain ⟨j,q,t,D,E,A⟩:=aAE ps y hl i u (by simpa [mE,pcC] using h);refine ⟨j+1,q,t,by simpa using D,by simpa using E,?_⟩;rcases A with ⟨e,A⟩ | ⟨e,A⟩ | ⟨e,A⟩
     ·exact .inl ⟨by omega,A⟩
     ·exact .inr (.inl ⟨by omega,A⟩)
     ·exact .inr (.inr ⟨by omega,A⟩)
 | [],_::_,h,_,_,_=>by simp at h
 | _::_,[],h,_,_,_=>by simp at h
theorem aBU {B:Nat} {w:World} {r:Option Nat} {b off:Nat} : ∀ (ps:List Pc) (o:Nat),(∀ (j:Nat) (p:Pc),ps[j]?=some p->PcR B w r b (off+(o+j)*3) p)->∃ y:List Value,y.length=ps.length/\∀ (j:Nat) (p:Pc) (tv:Value),ps[j]?=some p->y[j]?=some tv->
  w.cell? ⟨b,off+(o+j)*3,none⟩=some (.int .i64 p.k)/\w.cell? ⟨b,off+(o+j)*3+1,none⟩=some tv/\w.cell? ⟨b,off+(o+j)*3+2,none⟩=some (.int .i64 p.n)/\TxR B w r tv p.t
 | [],o,_=>⟨[],rfl,fun j p tv h _=>by simp at h⟩
 | p::ps,o,h=>by
   obtain ⟨tv,L,M,H,G⟩:=h 0 p rfl;obtain ⟨y,J,E⟩:=aBU ps (o+1) (fun j q A=>by rw [show o+1+j=o+(j+1) by omega];exact h (j+1) q (by simpa using A));refine ⟨tv::y,by simp [J],fun j q u A D=>?_⟩
   match j,A,D with
   | 0,A,D=>simp at A D;subst A D;exact ⟨L,M,H,G⟩
   | j+1,A,D=>rw [show o+(j+1)=o+1+j by omega];exact E j q u (by simpa using A) (by simpa using D)
theorem nY {v:Value} {n:Nat} (h:Sl v n):v.oneCell'=true:=by
 obtain ⟨a,cap,rfl,_⟩:=h;rfl
theorem tQ (B:Nat) (w:World) (v u:Value) (ps qs:List Pc) (hv:PoR B w v ps) (hu:PiR B w v.ownBlock u qs) (hB:B<=w.heap.size) (hn:ps.length+qs.length<=1000000000000) :
  ∃ M w',(Builtin.append_ #[44,44] 44 #[v,u]).run prog w=.ok M w'/\PoR B w' M (ps++qs)/\w.grownBy w' v.ownBlock/\(M.ownBlock=v.ownBlock\/M.ownBlock=some w.heap.size):=by
 obtain ⟨i0,hi,a9,b3,b4⟩:=info_parts aII;obtain ⟨xs,ho,ht⟩:=hv;obtain ⟨a,cap,rfl,d5,d6,hq⟩:=hu;cases a with
 | none=>
   have b5:qs=[]:=by
    rcases qs with _ | ⟨z,zs⟩
    ·rfl
    ·obtain ⟨b,off,S,_⟩:=hq (by simp);cases S
   subst b5;exact ⟨v,w,wU B _ _ _ i0 3 underlying44 hi v _ _ ho cap,by rw [List.append_nil];exact ⟨xs,ho,ht⟩,World.grownBy.refl _ _,.inl rfl⟩
 | some ad=>
   obtain ⟨y,Z,E,L⟩:∃ y:List Value,y.length=qs.length/\(∀ (j:Nat) (p:Pc) (tv:Value),qs[j]?=some p->y[j]?=some tv->TxR B w v.ownBlock tv p.t)/\∀ (j:Nat) (x:Value),(mE qs y)[j]?=some x->w.cell? (ad.add j)=some x:=by
    by_cases h0:qs=[]
    ·subst h0;exact ⟨[],rfl,fun j p tv h _=>by simp at h,fun j x h=>by simp [mE] at h⟩
    ·obtain ⟨b,off,S,O,J⟩:=hq h0;cases S;obtain ⟨y,hl,hh⟩:=aBU (B:=B) (w:=w) (r:=v.ownBlock) (b:=b) (off:=off) qs 0 (fun j p D=>by rw [Nat.zero_add];exact J j p D);refine ⟨y,hl,fun j p tv D E=>(hh j p tv D E).2.2.2,fun i x hx=>?_⟩;obtain ⟨j,p,tv,D,E,A⟩:=aAE qs y hl i x hx;obtain ⟨c1,c2,c3,_⟩:=hh j p tv D E;rw [Addr.add_lit];rw [Nat.zero_add] at c1 c2 c3;rcases A with ⟨rfl,rfl⟩ | ⟨rfl,rfl⟩ | ⟨rfl,rfl⟩
     ·exact c1
     ·exact c2
     ·exact c3
   obtain ⟨M,w',N,h1,h2,_,h4⟩:=run_append_own_at (P:=prog) w B 44 44 74 i0 (.agg #[.int .i64 0,.slice none 0 0,.int .i64 0]) 3 40 underlying44 hi a9 b3 b4 rfl (by decide) v ps.length xs ho ad qs.length cap (mE qs y) (aDJ qs y Z) L
    (by
     intro x hx;obtain ⟨i,b1,rfl⟩:=List.getElem_of_mem hx;obtain ⟨j,p,tv,D,a8,A⟩:=aAE qs y Z i _ (List.getElem?_eq_getElem b1);rcases A with ⟨_,e⟩ | ⟨_,e⟩ | ⟨_,e⟩
     ·rw [e];rfl
     ·rw [e];exact nY (E j p tv D a8).sl
     ·rw [e];rfl) (by unfold maxLen;omega) (by omega) hB
   refine ⟨M,w',N,⟨xs++mE qs y,by rw [List.length_append];exact h1,fun j p D=>?_⟩,h2,h4⟩;have d8:=ho.1
   have H:∀ tv,TxR B w v.ownBlock tv p.t->TxR B w' M.ownBlock tv p.t:=fun tv hT=>by
    rcases h4 with e | e
    ·rw [e];exact hT.row h2
    ·rw [e];obtain ⟨a2,a4,e2,Y,U,X⟩:=hT;refine ⟨a2,a4,e2,Y,U,fun h0=>?_⟩;obtain ⟨b,off,S,O,J⟩:=X h0;exact ⟨b,off,S,⟨O.1,Nat.lt_of_lt_of_le O.2.1 h2.size,fun e=>by have:=O.2.1;cases e;omega⟩,fun j hj=>h2.cell (J j hj) O.2.2⟩
   by_cases hj:j<ps.length
   ·rw [List.getElem?_append_left hj] at D;obtain ⟨tv,Y,U,X,k4⟩:=ht j p D;refine ⟨tv,?_,?_,?_,H tv k4⟩
    ·rw [List.getElem?_append_left (by omega)];exact Y
    ·rw [List.getElem?_append_left (by omega)];exact U
    ·rw [List.getElem?_append_left (by omega)];exact X
   ·rw [List.getElem?_append_right (by omega)] at D;have d2:=(List.getElem?_eq_some_iff.1 D).1;obtain ⟨tv,G⟩:∃ tv,y[j - ps.length]?=some tv:=⟨y[j - ps.length]'(by omega),List.getElem?_eq_getElem (by omega)⟩;obtain ⟨Y,U,X⟩:=uM qs y (j - ps.length) p tv D G;refine ⟨tv,?_,?_,?_,H tv (E _ p tv D G)⟩
    ·rw [List.getElem?_append_right (by omega),show j*3 - xs.length=(j - ps.length)*3 by omega];exact Y
    ·rw [List.getElem?_append_right (by omega),show j*3+1 - xs.length=(j - ps.length)*3+1 by omega];exact U
    ·rw [List.getElem?_append_right (by omega),show j*3+2 - xs.length=(j - ps.length)*3+2 by omega];exact X
theorem PiR.sl {B:Nat} {w:World} {r:Option Nat} {v:Value} {ps:List Pc} (h:PiR B w r v ps):Sl v ps.length:=by
 obtain ⟨a,cap,e,u,j,_⟩:=h;exact ⟨a,cap,e,u,j⟩
theorem aFh (B:Nat) (w:World) (v u:Value) (b:Nat) (h:List (List Pc)) (ds:List Pc) (hv:DoR B w v h) (hc:w.cell? ⟨b,0,none⟩=some u) (hu:PiR B w v.ownBlock u ds) (hB:B<=w.heap.size) (hn:h.length<=1000000000000) :
  ∃ H w',(Builtin.append_ #[75,75] 75 #[v,.slice (some ⟨b,0,none⟩) 1 1]).run prog w=.ok H w'/\DoR B w' H (h++[ds])/\w.grownBy w' v.ownBlock/\(H.ownBlock=v.ownBlock\/H.ownBlock=some w.heap.size):=by
 obtain ⟨i0,hi,X,a8,b1⟩:=info_parts aLC;obtain ⟨xs,ho,ht⟩:=hv
 have G:∀ j x,([u]:List Value)[j]?=some x->w.cell? ((⟨b,0,none⟩:Addr).add j)=some x:=by
  intro j x y;rw [Addr.add_lit,Nat.zero_add]
  match j,y with
  | 0,y=>simp at y;subst y;exact hc
  | j+1,y=>simp at y
 obtain ⟨H,w',L,h1,J,_,h4⟩:=run_append_own_at (P:=prog) w B 75 75 44 i0 (.slice none 0 0) 1 24 underlying75 hi X a8 b1 rfl (by decide) v h.length xs ho ⟨b,0,none⟩ 1 1 [u] rfl G
   (by intro x hx;simp at hx;subst hx;exact nY hu.sl) (by unfold maxLen;omega) (by omega) hB
 refine ⟨H,w',L,⟨xs++[u],by simpa using h1,fun j p E=>?_⟩,J,h4⟩;have f7:=ho.1
 have D:∀ x (q:List Pc),PiR B w v.ownBlock x q->PiR B w' H.ownBlock x q:=fun x q hT=>by
  have h3:=hT.row J;rcases h4 with e | e
  ·rw [e];exact h3
  ·rw [e];obtain ⟨a2,U,e2,k1,Z,k3⟩:=hT
   exact (⟨a2,U,e2,k1,Z,fun h0=>by
    obtain ⟨b,off,ha,A,Y⟩:=k3 h0;have N:∀ b,Zo B w v.ownBlock b->Zo B w' (some w.heap.size) b:=fun b A=>⟨A.1,Nat.lt_of_lt_of_le A.2.1 J.size,fun e=>by have:=A.2.1;cases e;omega⟩;refine ⟨b,off,ha,N b A,fun j p E=>?_⟩;obtain ⟨tv,c1,c2,c3,c4⟩:=Y j p E;refine ⟨tv,J.cell c1 A.2.2,J.cell c2 A.2.2,J.cell c3 A.2.2,?_⟩;obtain ⟨a5,M,e5,m1,m2,m3⟩:=c4;refine ⟨a5,M,e5,m1,m2,fun h0=>?_⟩;obtain ⟨b6,S,a6,O,b0⟩:=m3 h0;exact ⟨b6,S,a6,N b6 O,fun j y=>J.cell (b0 j y) O.2.2⟩⟩:PiR B w' (some w.heap.size) x q)
 by_cases y:j<h.length
 ·rw [List.getElem?_append_left y] at E;obtain ⟨x,k1,Z⟩:=ht j p E;exact ⟨x,by rw [List.getElem?_append_left (by omega)];exact k1,D x p Z⟩
 ·have a7:=(List.getElem?_eq_some_iff.1 E).1;simp at a7;have a4:j=h.length:=(by omega);subst a4;simp at E;subst E;exact ⟨u,by rw [show h.length=xs.length by omega];simp,D u ds hu⟩
theorem aFB (w:World) (k n:Int) (tv:Value) (t:List Int) (B:Nat) (u:B<=w.heap.size) (y:TxR B (w.alloc (Obj.cells #[.int .i64 k,tv,.int .i64 n] 74)) (some w.heap.size) tv t) :
  PoR B (w.alloc (Obj.cells #[.int .i64 k,tv,.int .i64 n] 74)) (.slice (some ⟨w.heap.size,0,none⟩) 1 1) [⟨k,t,n⟩]:=by
 refine ⟨[.int .i64 k,tv,.int .i64 n],⟨by simp,.inr ⟨w.heap.size,1,#[.int .i64 k,tv,.int .i64 n],rfl,u,by show (w.heap.push _)[w.heap.size]?=_;simp,Nat.le_refl _,by unfold maxLen;omega,by simp,by simp⟩⟩,fun j p h=>?_⟩
 match j,h with
 | 0,h=>simp at h;subst h;exact ⟨tv,rfl,rfl,rfl,y⟩
 | j+1,h=>simp at h
theorem dL (k:Int) (w:World) :
  Calls prog 37 #[.int .i64 k] w fun e w'=>∃ h,e=.returned h/\PoR w.heap.size w' h (aI k)/\w.grownBy w' none:=by
 go_enter func37,ntmps37
 go_wp2;go_ret;exact ⟨_,rfl,aFB w k 0 _ [] _ (Nat.le_refl _) (TxR.nil _ _ _),gWA⟩
theorem aFg (w:World) (h:List Int) (y:Bys h) (c:Nat) :
  RdB (w.alloc (.cells (bytesRow (strOfNums h) c) 5 ((bytesRow (strOfNums h) c).size,(bytesRow (strOfNums h) c).size+1))).heap.size (w.alloc (.cells (bytesRow (strOfNums h) c) 5 ((bytesRow (strOfNums h) c).size,(bytesRow (strOfNums h) c).size+1))) (.slice (some ⟨w.heap.size,0,none⟩) h.length c) h:=by
 refine ⟨_,c,rfl,fun _=>⟨w.heap.size,0,rfl,by simp,fun j u=>?_⟩⟩;have:=World.cell?_alloc_mark w (bytesRow (strOfNums h) c) 5 ((bytesRow (strOfNums h) c).size,(bytesRow (strOfNums h) c).size+1) j;rw [Nat.zero_add,this];have A:=y _ (List.getElem_mem u);unfold bytesRow;rw [Array.getElem?_append_left (by simp [strOfNums,u])];simp [strOfNums,u];omega
theorem aA1 (u:List Int) (H:Bys u) (M:u.length<=1000000000) (w:World) :
  ∃ cap w',(convert 9 27 (.string (strOfNums u))).run prog w=.ok (.slice (some ⟨w.heap.size,0,none⟩) u.length cap) w'/\TxR w.heap.size w' none (.slice (some ⟨w.heap.size,0,none⟩) u.length cap) u/\w.grownBy w' none/\w'.heap.size=w.heap.size+1/\∀ j,j<u.length->w'.frozen? ⟨w.heap.size,j,none⟩=false:=by
 have h:=run_bytes_of_string (P:=prog) w 9 27 5 (strOfNums u) underlying9 underlying27 underlying5;rw [strOfNums_size] at h;refine ⟨_,_,h,?_,?_,?_,?_⟩
 ·obtain ⟨a,cap,e,G⟩:=aFg w.drew u H (grownCap w u.length 0 5);simp only [Value.slice.injEq] at e;obtain ⟨rfl,_,rfl⟩:=e;refine ⟨_,_,rfl,grownCap_ge _ _ _ _,grownCap_le_maxLen _ _ _ _ (by unfold maxLen;omega),fun L=>?_⟩;obtain ⟨b,off,A,y,D⟩:=G L;exact ⟨b,off,A,⟨by cases A;exact Nat.le_refl _,y,by simp⟩,D⟩
 ·have E:w.grownBy w.drew none:=⟨rfl,rfl,rfl,Nat.le_refl _,fun _ _ _=>rfl⟩;exact aA E gWA
 ·simp
 ·intro j O;have N:=grownCap_ge w u.length 0 5
  have J:(bytesRow (strOfNums u) (grownCap w u.length 0 5)).size=grownCap w u.length 0 5:=by
   simp only [bytesRow,Array.size_append,Array.size_replicate,strOfNums,ByteArray.size,List.map_toArray,List.size_toArray,List.length_map];omega
  have:=World.frozen?_alloc_mark w.drew (bytesRow (strOfNums u) (grownCap w u.length 0 5)) 5 (bytesRow (strOfNums u) (grownCap w u.length 0 5)).size ((bytesRow (strOfNums u) (grownCap w u.length 0 5)).size+1) j;refine Eq.trans this ?_;rw [J];simp;omega
theorem cQ (h:List Int) (H:Bys h) (E:h.length<=1000000000) (w:World) :
  Calls prog 65 #[.string (strOfNums h)] w fun e w'=>∃ A,e=.returned A/\PoR w.heap.size w' A (aG h)/\w.grownBy w' none:=by
 obtain ⟨cap,j,u,G,D,J,_⟩:=aA1 h H E w
 go_enter func65,ntmps65
 go_wp2;go_ret;rw [<- J];have y:=World.grownBy_alloc j (Obj.cells #[.int .i64 1,.slice (some ⟨w.heap.size,0,none⟩) h.length cap,.int .i64 0] 74) none;exact ⟨_,rfl,aFB j 1 0 _ h _ D.size ((G.turn (Zo.on (some j.heap.size) (Nat.le_refl _) (fun k e=>by cases e;exact .inr (Nat.le_refl _)))).K y),aA D y⟩
theorem jL (v:Value) (zs:List Int) (w:World) (hv:RdB w.heap.size w v zs) (L:zs.length<=4194304) :
  Calls prog 66 #[v] w fun e w'=>∃ G,e=.returned G/\PoR w.heap.size w' G (aG zs)/\w.grownBy w' none:=by
 have J:=aB (aAF v zs w hv L);obtain ⟨a,cap,A,_⟩:=id hv;subst A;clear hv
 go_enter func66,ntmps66
 go_wp2_with fail
 refine J.out.mono ?_;rintro e u ⟨N,rfl,y,H⟩;obtain ⟨a1,M,D,_,_⟩:=y.sl;have j:∀ b,N.ownBlock=some b->b<u.heap.size:=fun b e=>(World.ownsRow.lt y b e).2;have O:=aB (aJz (r:=some u.heap.size) y (fun b e h=>by cases h;have:=j _ e;omega));subst D;clear J y j;go_wp2;go_ret;have E:=World.grownBy_alloc u (Obj.cells #[.int .i64 1,.slice a1 zs.length M,.int .i64 0] 74) none;exact ⟨_,rfl,aFB u 1 0 _ zs _ H.size (O.out.K E),aA H E⟩
end Go.Proofs.YtgifkcpdihphlaaGreatDoor
namespace Go.Proofs.YtgifkcpdihphlaaGreatDoor
open Tryz
open Go.RowKit
attribute [-go_sem] Builtin.append_
theorem PiR.at {B:Nat} {w:World} {r:Option Nat} {v:Value} {ps:List Pc} (h:PiR B w r v ps) (j:Nat) (u:j<ps.length) :
  ∃ b off cap,v=.slice (some ⟨b,off,none⟩) ps.length cap/\Zo B w r b/\PcR B w r b (off+j*3) ps[j]:=by
 obtain ⟨a,cap,hv,G,H,A⟩:=h;obtain ⟨b,off,D,E,y⟩:=A (fun e=>by rw [e] at u;simp at u);exact ⟨b,off,cap,by rw [hv,D],E,y j ps[j] (by simp [u])⟩
theorem PoR.sl {B:Nat} {w:World} {v:Value} {ps:List Pc} (h:PoR B w v ps):Sl v ps.length:=h.pi.sl
theorem PoR.lt {B:Nat} {w:World} {v:Value} {ps:List Pc} (h:PoR B w v ps):∀ k,v.ownBlock=some k->B<=k/\k<w.heap.size:=by
 obtain ⟨xs,j,_⟩:=h;exact fun k e=>World.ownsRow.lt j k e
theorem PoR.push {B:Nat} {w:World} {v:Value} {ps:List Pc} (k n:Int) (tv:Value) (t:List Int) (hv:PoR B w v ps) (E:B<=w.heap.size) (G:TxR B w v.ownBlock tv t) (N:ps.length<=100000000000) :
  ∃ u w',(Builtin.append_ #[44,44] 44 #[v,.slice (some ⟨w.heap.size,0,none⟩) 1 1]).run prog (w.alloc (Obj.cells #[.int .i64 k,tv,.int .i64 n] 74))=.ok u w'/\PoR B w' u (ps++[⟨k,t,n⟩])/\w.grownBy w' v.ownBlock/\(∃ a cap,u=.slice a (ps.length+1) cap)/\∀ x,u.ownBlock=some x->v.ownBlock=some x\/w.heap.size<=x:=by
 have g:=World.grownBy_alloc w (Obj.cells #[.int .i64 k,tv,.int .i64 n] 74) none;have M:=World.grownBy_alloc w (Obj.cells #[.int .i64 k,tv,.int .i64 n] 74) v.ownBlock
 obtain ⟨u,w',L,D,J,H⟩:=tQ B (w.alloc (Obj.cells #[.int .i64 k,tv,.int .i64 n] 74)) v (.slice (some ⟨w.heap.size,0,none⟩) 1 1) ps [⟨k,t,n⟩] (hv.K g)
  ⟨_,1,rfl,Nat.le_refl _,by unfold maxLen;omega,fun _=>⟨w.heap.size,0,rfl,⟨E,by simp,fun e=>by have:=hv.lt _ e.symm;omega⟩,fun j p y=>by
   match j,y with
   | 0,y=>simp at y;subst y;exact ⟨tv,by simp [go_sem],by simp [go_sem],by simp [go_sem],G.K g⟩
   | j+1,y=>simp at y⟩⟩ (by simp;omega) (by simp;omega)
 refine ⟨u,w',L,D,aA M J,?_⟩;obtain ⟨a,cap,e,_⟩:=D.sl;refine ⟨⟨a,cap,by simpa using e⟩,fun x A=>?_⟩;rcases H with h | h
 ·exact .inl (by rw [<- h];exact A)
 ·rw [h] at A;cases A;right;simp
theorem pS (v:Value) (ps:List Pc) (B:Nat) (w:World) (hv:PiR B w none v ps) (hn:mes ps<=4194304) :
  Calls prog 71 #[v] w fun e w'=>∃ v',e=.returned v'/\PoR w.heap.size w' v' ps/\w.grownBy w' none:=by
 have HV:=aB hv;obtain ⟨a,cap,d1,_⟩:=id hv;subst d1;have hl:=pN ps;clear hv
 go_enter func71,ntmps71
 go_wp2
 go_loopw [3,4] (fun o i W=>∃ (k:Nat),k<=ps.length/\i=.int .i64 k/\PoR w.heap.size W o (ps.take k)/\w.grownBy W none)
  (fun _ i _=>ps.length - (intOf i).toNat)
 case atStart=>exact ⟨0,Nat.zero_le _,rfl,PoR.nil _ _,World.grownBy.refl _ _⟩
 case round=>
  obtain ⟨k,hk,rfl,ho,hg⟩:=hrel
  by_cases D:k<ps.length
  ·obtain ⟨b,off,a6,d0,hz,tv,c0,c1,c2,hT⟩:=(HV.out.K hg).at k D;cases d0;have d2:b<w.heap.size:=(by have:=((HV.out).at k D);obtain ⟨b',f3,a6,e,c3,_⟩:=this;cases e;exact c3.2.1);have hm:=aGz ps ps[k] (List.getElem_mem D);have gd:wr.grownBy wr.drew none:=⟨rfl,rfl,rfl,Nat.le_refl _,fun _ _ _=>rfl⟩;have HC:=aB (aAF tv ps[k].t wr.drew (hT.K gd).rd (by omega));have HP:=aB (show ps.take (k+1)=ps.take k++[ps[k]] by rw [List.take_add_one];simp [D]);obtain ⟨ta,H,b8,_,_⟩:=hT.sl;subst b8;obtain ⟨oa,oc,a7,_,_⟩:=ho.sl;have HO:=aB ho;have b0:(ps.take k).length=k:=(by simp;omega);rw [b0] at a7;subst a7;clear hT ho;generalize ps[k]=p at *;obtain ⟨I,G⟩:∃ I:World->Prop,I=(fun W:World=>W.cell? ⟨b,off+k*3,none⟩=some (.int .i64 p.k)/\W.cell? ⟨b,off+k*3+1,none⟩=some (.slice ta p.t.length H)/\W.cell? ⟨b,off+k*3+2,none⟩=some (.int .i64 p.n)):=⟨_,rfl⟩;have u:I wr.drew:=(by rw [G];exact ⟨c0,c1,c2⟩);go_wp2;refine cS I (fun _=>false) (by kernel_rfl) ?_
   show kZ _ _ _ _ _ _ 21 (Array.replicate 21 false) _ _
   refine bE (i:=0) (.slice oa k oc) rfl u (cC rfl (fun W y=>by go_simp)) ?_;refine bE (i:=1) (.slice (some ⟨b,off,none⟩) ps.length cap) rfl u (cC rfl (fun W y=>by go_simp)) ?_;refine bE (i:=2) (.int .i64 k) rfl u (cC rfl (fun W y=>by go_simp)) ?_;refine bE (i:=3) (.pointer (some ⟨b,off+k*3,none⟩)) rfl u (cC rfl (fun W y=>by go_simp)) ?_;refine bE (i:=4) (.pointer (some ⟨b,off+k*3,none⟩)) rfl u (cC rfl (fun W y=>by go_simp)) ?_;refine bE (i:=5) (.int .i64 p.k) rfl u (cC rfl (fun W y=>by rw [G] at y;obtain ⟨h1,h2,h3⟩:=y;go_simp)) ?_;refine bE (i:=6) (.slice (some ⟨b,off,none⟩) ps.length cap) rfl u (cC rfl (fun W y=>by go_simp)) ?_;refine bE (i:=7) (.int .i64 k) rfl u (cC rfl (fun W y=>by go_simp)) ?_;refine bE (i:=8) (.pointer (some ⟨b,off+k*3,none⟩)) rfl u (cC rfl (fun W y=>by go_simp)) ?_;refine bE (i:=9) (.pointer (some ⟨b,off+k*3+1,none⟩)) rfl u (cC rfl (fun W y=>by go_simp)) ?_;refine bE (i:=10) (.slice ta p.t.length H) rfl u (cC rfl (fun W y=>by rw [G] at y;obtain ⟨h1,h2,h3⟩:=y;go_simp)) ?_;refine bE (i:=12) (.slice (some ⟨b,off,none⟩) ps.length cap) rfl u (cC rfl (fun W y=>by go_simp)) ?_;refine bE (i:=13) (.int .i64 k) rfl u (cC rfl (fun W y=>by go_simp)) ?_;refine bE (i:=14) (.pointer (some ⟨b,off+k*3,none⟩)) rfl u (cC rfl (fun W y=>by go_simp)) ?_;refine bE (i:=15) (.pointer (some ⟨b,off+k*3+2,none⟩)) rfl u (cC rfl (fun W y=>by go_simp)) ?_;refine bE (i:=16) (.int .i64 p.n) rfl u (cC rfl (fun W y=>by rw [G] at y;obtain ⟨h1,h2,h3⟩:=y;go_simp)) ?_;generalize hG:Act.put _ _ _=A0;simp [Act.put] at hG;subst hG;refine aL (i:=11) (by kernel_rfl) (eC rfl rfl (by go_simp) HC.out ?_);rintro e M ⟨v1,rfl,o1,E⟩;have A:I M:=(by rw [G];exact ⟨(aA gd E).cell c0 (by simp),(aA gd E).cell c1 (by simp),(aA gd E).cell c2 (by simp)⟩);refine ⟨_,rfl,.inr A,?_⟩;replace E:=aA gd E;have hs:=E.size;have hw:=hg.size;have J:∀ b,v1.ownBlock=some b->wr.heap.size<=b:=fun b e=>(World.ownsRow.lt o1 b e).1;have a8:TxR w.heap.size M (Value.slice oa k oc).ownBlock v1 p.t:=aJz (bH hw o1) (fun b e h=>by have:=(HO.out.lt b h.symm).2;have:=J b e;omega);obtain ⟨v2,S,d3,N,g2,⟨a2,O,X⟩,_⟩:=(HO.out.K E).push p.k p.n v1 p.t (by omega) a8 (by omega);rw [b0] at X;obtain ⟨a1,Z,c4,_,_⟩:=o1.sl;have c6:Hid (PoR w.heap.size S v2 (ps.take (k+1))):=(by unfold Hid;rw [HP.out];exact N);have HG:Hid (w.grownBy S none):=aU (aA hg E) g2 (fun j e=>(HO.out.lt j e).1);have U:∀ x,(Value.slice oa k oc).ownBlock=some x->some b≠some x:=fun x e h=>by cases h;have:=(HO.out.lt b e).1;have:=d2;omega
   have b7:I (M.alloc (Obj.cells #[.int .i64 p.k,v1,.int .i64 p.n] 74)):=by
    have g:=World.grownBy_alloc M (Obj.cells #[.int .i64 p.k,v1,.int .i64 p.n] 74) none;rw [G] at A ⊢;exact ⟨g.cell A.1 (by simp),g.cell A.2.1 (by simp),g.cell A.2.2 (by simp)⟩
   have Y:I S:=by
    have L:some b≠(Value.slice oa k oc).ownBlock:=fun e=>U b e.symm rfl;rw [G] at A ⊢;exact ⟨g2.cell A.1 L,g2.cell A.2.1 L,g2.cell A.2.2 L⟩
   subst c4 X;clear HC a8 N g2 o1 J HP c0 c1 c2 U;refine aL (i:=17) (by kernel_rfl) (bM (w':=M) (v:=.agg #[.int .i64 p.k,.slice a1 p.t.length Z,.int .i64 p.n]) rfl rfl (by go_simp) ⟨.inr A,?_⟩);refine aL (i:=18) (by kernel_rfl) (bM (w':=M.alloc (Obj.cells #[.int .i64 p.k,.slice a1 p.t.length Z,.int .i64 p.n] 74)) (v:=.slice (some ⟨M.heap.size,0,none⟩) 1 1) rfl rfl (by go_simp) ⟨.inr b7,?_⟩);refine aL (i:=19) (by kernel_rfl) (bM (w':=S) (v:=.slice a2 (k+1) O) rfl rfl (by go_simp) ⟨.inr Y,?_⟩);refine aL (i:=20) (by kernel_rfl) (bM (w':=S) (v:=.slice a2 (k+1) O) rfl rfl (by go_simp) ⟨.inr Y,?_⟩);refine eD (by kernel_rfl) ?_ _;subst G;go_wp2
   go_roundw
   case rel=>exact ⟨k+1,by omega,by go_num,c6.out,HG.out⟩
   case measure=>simp [intOf];omega
  ·have c8:k=ps.length:=(by omega);subst c8;rw [List.take_length] at ho;go_wp2;go_ret;exact ⟨_,rfl,ho,hg⟩
theorem oZ (D n:Int) (v:Value) (ps:List Pc) (B:Nat) (w:World) (hv:PiR B w none v ps) (N:mes ps<=4194304) :
  Calls prog 69 #[.int .i64 D,v,.int .i64 n] w fun e w'=>∃ L,e=.returned L/\PoR w.heap.size w' L (ps++[⟨D,[],n⟩])/\w.grownBy w' none:=by
 have M:=aB (pS v ps B w hv N);have hl:=pN ps;obtain ⟨a,cap,E,_⟩:=id hv;subst E;clear hv
 go_enter func69,ntmps69
 go_wp2_with fail
 refine M.out.mono ?_;rintro e Y ⟨v1,rfl,u,H⟩;have S:=H.size;obtain ⟨v2,O,G,h,J,⟨a2,Z,A⟩,_⟩:=u.push D n (.slice none 0 0) [] S (TxR.nil _ _ _) (by omega);obtain ⟨a1,c1,y,_,_⟩:=u.sl;have U:Hid (w.grownBy O none):=aU H J (fun j e=>(u.lt j e).1);have X:=aB h;subst y A;clear M u h J;go_wp2;go_ret;exact ⟨_,rfl,X.out,U.out⟩
theorem gK (v:Value) (j:List (List Pc)) (B:Nat) (w:World) (hv:DiR B w none v j) (hB:B<=w.heap.size) (hn:bO j<=4194304) :
  Calls prog 38 #[v] w fun e w'=>∃ v',e=.returned v'/\PoR B w' v' (cT j)/\w.grownBy w' none:=by
 have HV:=aB hv;obtain ⟨a,cap,b7,h0,h4,hh⟩:=id hv;subst b7;clear hv;have a9:=cU j;rcases j with _ | ⟨y,j⟩
 ·have HL:=aB (dL 0 w);simp only [List.length_nil]
  go_enter func38,ntmps38
  go_wp2_with fail
  refine HL.out.mono ?_;rintro e w1 ⟨v1,rfl,A,g1⟩;have HO:=aB (A.base hB);obtain ⟨a1,c1,D,_,_⟩:=A.sl;subst D;clear HL A;go_wp2;go_ret;exact ⟨_,rfl,HO.out,g1⟩
 ·obtain ⟨b,off,rfl,hz,hc⟩:=hh (by simp);obtain ⟨u0,c4,G⟩:=hc 0 y rfl;have S:=aB hc;have c9:mes y<=4194304:=(by have:=aEa (y::j) y (by simp);omega);have HC:=aB (fun W (g:w.grownBy W none)=>pS u0 y B W (G.K g) c9);obtain ⟨ua,uc,hu,_,_⟩:=G.sl;subst hu;have h6:=hz.2.1;clear hh hc hz G;have c5:(y::j).length=j.length+1:=rfl;rw [c5] at *;rw [Nat.add_zero] at c4
  go_enter func38,ntmps38
  go_wp2_with fail
  refine (HC.out _ (World.grownBy.refl _ _)).mono ?_;rintro e w1 ⟨v1,rfl,A,g1⟩;obtain ⟨a1,c1,D,_,_⟩:=A.sl;have HO:=aB (A.base hB);have N:=aB (fun x e=>(A.lt x e).1);subst D;clear HC A;have HM:=aB hn;have f9:j.length<=4194304:=(by have h:=cU j;simp only [bO] at hn;omega);clear hn a9;go_wp2
  go_loopw [3,4] (fun o i W=>∃ (k:Nat),k<=j.length/\i=.int .i64 ((k:Int)+1)/\PoR B W o (y++jA (j.take k))/\w.grownBy W none/\(∀ x,o.ownBlock=some x->w.heap.size<=x))
   (fun _ i _=>j.length+1 - (intOf i).toNat)
  case atStart=>exact ⟨0,Nat.zero_le _,rfl,by simpa [jA] using HO.out,g1,N.out⟩
  case round=>
   obtain ⟨k,hk,rfl,J,O,hx⟩:=hrel
   by_cases Y:k<j.length
   ·obtain ⟨u,hu,hd⟩:=S.out (k+1) j[k] (by simp [Y]);have h8:=O.cell hu (by simp);have c6:mes j[k]<=4194304:=(by have:=aEa (y::j) j[k] (by simp);have:=HM.out;omega);have g5:=pN j[k]
    have c7:(y++jA (j.take k)).length<=4194304:=by
     have h1:=pN (y++jA (j.take k));rw [fD,aAK] at h1;have Z:=HM.out;have h3:=cP (j.take k) (j.drop k);rw [List.take_append_drop] at h3;simp only [bO] at Z;omega
    obtain ⟨oa,oc,H,_,_⟩:=J.sl;subst H;have L:=(hd.turn (Zo.on (Value.slice oa (y++jA (j.take k)).length oc).ownBlock (Nat.le_refl _) (fun x e=>.inr (hx x e)))).K O;have b3:=O.size;obtain ⟨v2,w2,d2,E,g2,Z⟩:=tQ B wr _ u _ _ J L (by omega) (by omega);obtain ⟨a2,c2,b4,_,_⟩:=E.sl;have U:=aU O g2 hx
    have M:∀ x,v2.ownBlock=some x->w.heap.size<=x:=fun x e=>by
     rcases Z with h | h
     ·exact hx x (by rw [<- h];exact e)
     ·rw [h] at e;cases e;exact b3
    have f4:=U.size;obtain ⟨v3,w3,d3,X,g3,⟨a3,c3,c0⟩,h3⟩:=E.push 6 0 (.slice none 0 0) [] (by omega) (TxR.nil _ _ _) (by simp only [List.length_append] at c7 ⊢;omega)
    have b9:Hid (PoR B w3 v3 (y++jA (j.take (k+1)))):=by
     have e:j.take (k+1)=j.take k++[j[k]]:=(by rw [List.take_add_one];simp [Y]);unfold Hid;rw [e,aBG];simpa [vD,List.append_assoc] using X
    have b0:=aB (aU U g3 M)
    have b1:Hid (∀ x,v3.ownBlock=some x->w.heap.size<=x):=fun x e=>by
     rcases h3 x e with h | h
     ·exact M x h
     ·omega
    obtain ⟨h5,g7,c8,_,_⟩:=L.sl;subst b4 c0 c8;clear J E X L hd g2 g3 hx M Z h3 hu S HO N c6;generalize (y++jA (List.take k j)++j[k]).length=L2 at *;generalize (y++jA (List.take k j)).length=L1 at *;go_wp2
    go_roundw
    case rel=>exact ⟨k+1,by omega,by go_num,b9.out,b0.out,b1.out⟩
    case measure=>simp [intOf];omega
   ·have b5:k=j.length:=(by omega);subst b5;rw [List.take_length] at J;obtain ⟨oa,oc,H,_,_⟩:=J.sl;subst H;have b8:=aB J;clear J;go_wp2;go_ret;exact ⟨_,rfl,b8.out,O⟩
end Go.Proofs.YtgifkcpdihphlaaGreatDoor
