import Derived.Maps.AppendAt
import Derived.Lib.BufferMore
import Derived.Deep.Slices
import Derived.Test.YtmfehflibkokbaaGreatDoorMAZ
set_option maxHeartbeats 16000000
set_option maxRecDepth 100000
namespace Go.Proofs.YtmfehflibkokbaaGreatDoor
open Go.Proofs.Tryz
open Go.RowKit
theorem rF {P:Program} {w:World} (base:Nat) (t E e:TypeId) (i:TypeInfo) (size:Nat) (A:P.underlying t=some (.slice e)) (D:P.info? e=some i)
  (v:Value) (n:Nat) (xs:List Value) (h:w.ownsRow base e size v n xs) (c:Nat):(Builtin.append_ #[t,t] E #[v,.slice none 0 c]).run P w=.ok v w:=by
 rcases h.2 with ⟨rfl,rfl⟩ | ⟨g,cap,G,rfl,_,_,y,_⟩
 ·simp [Builtin.append_,run_underlying A,sizeOf,typeInfo,D,Builtin.lenOf,Builtin.firstCells]
 ·simp [Builtin.append_,run_underlying A,sizeOf,typeInfo,D,Builtin.lenOf,Builtin.firstCells,y,storeCells]
theorem lB {P:Program} {w:World} {ops:Array Oper} {rest:List Oper} {o:Oper} {a:Act} {Q:Exit->Act->World->Prop} (A:o.guard=none) (s x:Operand) (t:TypeId)
  (G:o.op=.call { callee:=.builtin .append,args:=#[s,x],argTypes:=#[t,t] }) (v E D:Value) (w':World) (J:a.eval s=v) (N:a.eval x=E)
  (y:(Builtin.append_ #[t,t] o.type #[v,E]).run P w=.ok D w') (h:wpList P ops Q rest (a.put o.dst D) w'):wpList P ops Q (o::rest) a w:=by
 refine wpList_plain A fun K M=>?_;unfold Oper.wp;simp only [execOp,G,resolve,invoke,builtin,Sem.run_bind,Sem.run_pure,Result.andThen_ok,List.map_toArray,List.map_cons,List.map_nil,J,N,y];exact M _ _ h
theorem lR (B B':Nat) (w:World) (v tv:Value) (ys t:List Int) (h:Ow .u8 5 B w v ys) (M:Rd .u8 B' w tv t) (hB:B<=w.heap.size) (hn:ys.length+t.length<=100000000000) :
  ∃ D w',(Builtin.append_ #[22,22] 22 #[v,tv]).run prog w=.ok D w'/\Ow .u8 5 B w' D (ys++t)/\w.grownBy w' v.ownBlock/\(D.ownBlock=v.ownBlock\/D.ownBlock=some w.heap.size):=by
 obtain ⟨i0,hi,S,G,O⟩:=info_parts mF;obtain ⟨a,cap,N,Z⟩:=M;subst N;cases a with
 | none=>
   have ht:t=[]:=by
    rcases t with _ | ⟨z,zs⟩
    ·rfl
    ·obtain ⟨b,off,J,_⟩:=Z (by simp);cases J
   subst ht;exact ⟨v,w,rF B _ _ _ i0 1 underlying22 hi v _ _ h cap,by simpa using h,World.grownBy.refl _ _,.inl rfl⟩
 | some ad=>
   have A:∀ j u,(t.map (Value.int .u8))[j]?=some u->w.cell? (ad.add j)=some u:=by
    intro j u U;have y:j<t.length:=(by have:=(List.getElem?_eq_some_iff.1 U).1;simpa using this);obtain ⟨b2,X,J,_,hc⟩:=Z (fun e=>by rw [e] at y;simp at y);cases J;rw [Addr.add_lit,hc j y];simpa [y] using U
   obtain ⟨D,w',E,h1,h2,_,h4⟩:=run_append_own_at (P:=prog) w B 22 22 5 i0 (.int .u8 0) 1 1 underlying22 hi S G O rfl (by decide) v ys.length (ys.map (Value.int .u8)) h ad t.length cap (t.map (Value.int .u8)) (by simp) A
    (by intro u Y;simp only [List.mem_map] at Y;obtain ⟨z,_,rfl⟩:=Y;rfl) (by unfold maxLen;omega) (by omega) hB
   exact ⟨D,w',E,by unfold Ow;simpa using h1,h2,h4⟩
theorem tP (a:Option Addr) (n cap:Nat) (y:Value) (w w':World) (h:(Builtin.append_ #[22,22] 22 #[.slice none 0 0,.slice a n cap]).run prog w=.ok y w') :
  Calls prog 39 #[.slice a n cap] w fun e A=>e=.returned y/\w'=A:=by
 go_enter func39,ntmps39
 go_wp2_with (at_builtin;refine lB rfl _ _ _ rfl _ _ _ _ rfl rfl h ?_)
 go_ret;exact ⟨rfl,rfl⟩
theorem tB (v:Value) (zs:List Int) (w:World) (hv:Rd .u8 w.heap.size w v zs) (G:zs.length<=4194304) :
  Calls prog 39 #[v] w fun e w'=>∃ h,e=.returned h/\Ow .u8 5 w.heap.size w' h zs/\w.grownBy w' none:=by
 obtain ⟨h,w',y,D,E,_⟩:=lR w.heap.size w.heap.size w (.slice none 0 0) v [] zs ⟨by simp,.inl ⟨rfl,rfl⟩⟩ hv (Nat.le_refl _) (by simp;omega);obtain ⟨a,cap,A,_⟩:=id hv;subst A;refine (tP a zs.length cap h w w' y).mono ?_;rintro e J ⟨rfl,rfl⟩;exact ⟨h,rfl,by simpa using D,E⟩
def Zo (B:Nat) (w:World) (r:Option Nat) (b:Nat):Prop:=B<=b/\b<w.heap.size/\some b≠r
def TxR (B:Nat) (w:World) (r:Option Nat) (tv:Value) (t:List Int):Prop:=
 ∃ a cap,tv=.slice a t.length cap/\t.length<=cap/\cap<=maxLen/\(t≠[]->∃ b off,a=some ⟨b,off,none⟩/\Zo B w r b/\∀ j,j<t.length->w.cell? ⟨b,off+j,none⟩=some (.int .u8 (t[j]?.getD 0)))
def PcR (B:Nat) (w:World) (r:Option Nat) (b o:Nat) (p:Pc):Prop:=
 ∃ tv,w.cell? ⟨b,o,none⟩=some (.int .i64 p.k)/\w.cell? ⟨b,o+1,none⟩=some tv/\w.cell? ⟨b,o+2,none⟩=some (.int .i64 p.n)/\TxR B w r tv p.t
def PiR (B:Nat) (w:World) (r:Option Nat) (v:Value) (ps:List Pc):Prop:=
 ∃ a cap,v=.slice a ps.length cap/\ps.length<=cap/\cap<=maxLen/\(ps≠[]->∃ b off,a=some ⟨b,off,none⟩/\Zo B w r b/\∀ j p,ps[j]?=some p->PcR B w r b (off+j*3) p)
def DiR (B:Nat) (w:World) (r:Option Nat) (v:Value) (dss:List (List Pc)):Prop:=
 ∃ a cap,v=.slice a dss.length cap/\dss.length<=cap/\cap<=maxLen/\(dss≠[]->∃ b off,a=some ⟨b,off,none⟩/\Zo B w r b/\∀ j ds,dss[j]?=some ds->∃ u,w.cell? ⟨b,off+j,none⟩=some u/\PiR B w r u ds)
theorem Zo.row {B b:Nat} {w w':World} {r:Option Nat} (h:Zo B w r b) (g:w.grownBy w' r):Zo B w' r b:=⟨h.1,Nat.lt_of_lt_of_le h.2.1 g.size,h.2.2⟩
theorem TxR.row {B:Nat} {w w':World} {r:Option Nat} {tv:Value} {t:List Int} (h:TxR B w r tv t) (g:w.grownBy w' r):TxR B w' r tv t:=by
 obtain ⟨a,cap,e,G,M,E⟩:=h;refine ⟨a,cap,e,G,M,fun A=>?_⟩;obtain ⟨b,off,J,y,D⟩:=E A;exact ⟨b,off,J,y.row g,fun j N=>g.cell (D j N) y.2.2⟩
theorem PcR.row {B:Nat} {w w':World} {r:Option Nat} {b o:Nat} {p:Pc} (h:PcR B w r b o p) (y:some b≠r) (g:w.grownBy w' r):PcR B w' r b o p:=by
 obtain ⟨tv,E,G,D,A⟩:=h;exact ⟨tv,g.cell E y,g.cell G y,g.cell D y,A.row g⟩
theorem PiR.row {B:Nat} {w w':World} {r:Option Nat} {v:Value} {ps:List Pc} (h:PiR B w r v ps) (g:w.grownBy w' r):PiR B w' r v ps:=by
 obtain ⟨a,cap,e,G,N,E⟩:=h;refine ⟨a,cap,e,G,N,fun D=>?_⟩;obtain ⟨b,off,M,y,A⟩:=E D;exact ⟨b,off,M,y.row g,fun j p J=>(A j p J).row y.2.2 g⟩
theorem TxR.turn {B B':Nat} {w:World} {r y:Option Nat} {tv:Value} {t:List Int} (h:TxR B w r tv t) (f:∀ b,Zo B w r b->Zo B' w y b):TxR B' w y tv t:=by
 obtain ⟨a,cap,e,J,N,G⟩:=h;refine ⟨a,cap,e,J,N,fun E=>?_⟩;obtain ⟨b,off,M,A,D⟩:=G E;exact ⟨b,off,M,f b A,D⟩
theorem PcR.turn {B B':Nat} {w:World} {r y:Option Nat} {b o:Nat} {p:Pc} (h:PcR B w r b o p) (f:∀ b,Zo B w r b->Zo B' w y b):PcR B' w y b o p:=by
 obtain ⟨tv,E,G,D,A⟩:=h;exact ⟨tv,E,G,D,A.turn f⟩
theorem PiR.turn {B B':Nat} {w:World} {r y:Option Nat} {v:Value} {ps:List Pc} (h:PiR B w r v ps) (f:∀ b,Zo B w r b->Zo B' w y b):PiR B' w y v ps:=by
 obtain ⟨a,cap,e,J,O,G⟩:=h;refine ⟨a,cap,e,J,O,fun E=>?_⟩;obtain ⟨b,off,N,A,D⟩:=G E;exact ⟨b,off,N,f b A,fun j p M=>(D j p M).turn f⟩
theorem Zo.base {B B':Nat} {w:World} {r:Option Nat} (y:B'<=B):∀ b,Zo B w r b->Zo B' w r b:=fun _ h=>⟨Nat.le_trans y h.1,h.2.1,h.2.2⟩
theorem Zo.off {B:Nat} {w:World} {r:Option Nat} : ∀ b,Zo B w r b->Zo B w none b:=fun _ h=>⟨h.1,h.2.1,by simp⟩
theorem Zo.on {B B':Nat} {w:World} {r:Option Nat} (x:Option Nat) (y:B'<=B) (A:∀ k,x=some k->k<B\/w.heap.size<=k):∀ b,Zo B w r b->Zo B' w x b:=
 fun b h=>⟨Nat.le_trans y h.1,h.2.1,fun e=>by have:=A b e.symm;have D:=h.1;have E:=h.2.1;omega⟩
theorem TxR.K {B:Nat} {w w':World} {r:Option Nat} {tv:Value} {t:List Int} (h:TxR B w r tv t) (g:w.grownBy w' none):TxR B w' r tv t:=by
 obtain ⟨a,cap,e,G,M,E⟩:=h;refine ⟨a,cap,e,G,M,fun A=>?_⟩;obtain ⟨b,off,J,y,D⟩:=E A;exact ⟨b,off,J,⟨y.1,Nat.lt_of_lt_of_le y.2.1 g.size,y.2.2⟩,fun j N=>g.cell (D j N) (by simp)⟩
theorem PcR.K {B:Nat} {w w':World} {r:Option Nat} {b o:Nat} {p:Pc} (h:PcR B w r b o p) (g:w.grownBy w' none):PcR B w' r b o p:=by
 obtain ⟨tv,y,D,E,A⟩:=h;exact ⟨tv,g.cell y (by simp),g.cell D (by simp),g.cell E (by simp),A.K g⟩
theorem PiR.K {B:Nat} {w w':World} {r:Option Nat} {v:Value} {ps:List Pc} (h:PiR B w r v ps) (g:w.grownBy w' none):PiR B w' r v ps:=by
 obtain ⟨a,cap,e,G,N,E⟩:=h;refine ⟨a,cap,e,G,N,fun D=>?_⟩;obtain ⟨b,off,M,y,A⟩:=E D;exact ⟨b,off,M,⟨y.1,Nat.lt_of_lt_of_le y.2.1 g.size,y.2.2⟩,fun j p J=>(A j p J).K g⟩
theorem TxR.nil (B:Nat) (w:World) (r:Option Nat):TxR B w r (.slice none 0 0) []:=⟨none,0,rfl,Nat.le_refl _,by unfold maxLen;omega,fun h=>absurd rfl h⟩
theorem TxR.rd {B:Nat} {w:World} {r:Option Nat} {tv:Value} {t:List Int} (h:TxR B w r tv t):RdB w.heap.size w tv t:=by
 obtain ⟨a,cap,e,J,M,D⟩:=h;refine ⟨a,cap,e,fun E=>?_⟩;obtain ⟨b,off,G,y,A⟩:=D E;exact ⟨b,off,G,y.2.1,A⟩
theorem TxR.sl {B:Nat} {w:World} {r:Option Nat} {tv:Value} {t:List Int} (h:TxR B w r tv t):Sl tv t.length:=by
 obtain ⟨a,cap,e,y,A,D⟩:=h;exact ⟨a,cap,e,y,A⟩
theorem aID {B:Nat} {w:World} {r:Option Nat} {tv:Value} {t:List Int} (h:OwB B w tv t) (O:∀ b,tv.ownBlock=some b->some b≠r):TxR B w r tv t:=by
 obtain ⟨a,cap,e,N,U⟩:=h.sl;refine ⟨a,cap,e,N,U,fun M=>?_⟩;obtain ⟨a',E,D,A⟩:=h.rd;rw [e] at D;simp only [Value.slice.injEq] at D;obtain ⟨rfl,_,rfl⟩:=D;obtain ⟨b,off,y,X,J⟩:=A M;rcases h.2 with ⟨hv,Y⟩ | ⟨g,G,S,hv,Z,_⟩
 ·rw [e] at hv;simp only [Value.slice.injEq] at hv;rw [hv.1] at y;cases y
 ·rw [e] at hv;simp only [Value.slice.injEq] at hv;obtain ⟨hv,_,_⟩:=hv;rw [y] at hv;simp only [Option.some.injEq,Addr.mk.injEq] at hv;refine ⟨b,off,y,⟨by omega,X,?_⟩,J⟩;refine O b ?_;rw [e,y];rw [hv.2.1];rfl
theorem PiR.rdP {B:Nat} {w:World} {r:Option Nat} {v:Value} {ps:List Pc} (h:PiR B w r v ps):RdP w.heap.size w v ps:=by
 obtain ⟨a,cap,e,G,X,N⟩:=h;refine ⟨a,cap,e,G,X,fun A=>?_⟩;obtain ⟨b,off,U,D,E⟩:=N A;refine ⟨b,off,U,D.2.1,fun j p O=>?_⟩;obtain ⟨tv,S,J,M,y⟩:=E j p O;exact ⟨tv,S,J,M,y.rd,y.sl⟩
def PoR (B:Nat) (w:World) (v:Value) (ps:List Pc):Prop:=
 ∃ xs:List Value,w.ownsRow B 95 3 v ps.length xs/\∀ (j:Nat) (p:Pc),ps[j]?=some p->∃ tv,xs[j*3]?=some (.int .i64 p.k)/\xs[j*3+1]?=some tv/\xs[j*3+2]?=some (.int .i64 p.n)/\TxR B w v.ownBlock tv p.t
def DoR (B:Nat) (w:World) (v:Value) (dss:List (List Pc)):Prop:=
 ∃ xs:List Value,w.ownsRow B 30 1 v dss.length xs/\∀ (j:Nat) (ds:List Pc),dss[j]?=some ds->∃ u,xs[j]?=some u/\PiR B w v.ownBlock u ds
theorem PoR.K {B:Nat} {w w':World} {v:Value} {ps:List Pc} (h:PoR B w v ps) (g:w.grownBy w' none):PoR B w' v ps:=by
 obtain ⟨xs,A,J⟩:=h;refine ⟨xs,World.ownsRow.kept A g (by cases v.ownBlock<;>simp),fun j p G=>?_⟩;obtain ⟨tv,E,M,D,y⟩:=J j p G;exact ⟨tv,E,M,D,y.K g⟩
theorem DoR.K {B:Nat} {w w':World} {v:Value} {y:List (List Pc)} (h:DoR B w v y) (g:w.grownBy w' none):DoR B w' v y:=by
 obtain ⟨xs,A,G⟩:=h;refine ⟨xs,World.ownsRow.kept A g (by cases v.ownBlock<;>simp),fun j p E=>?_⟩;obtain ⟨u,D,J⟩:=G j p E;exact ⟨u,D,J.K g⟩
theorem PoR.nil (B:Nat) (w:World):PoR B w (.slice none 0 0) []:=⟨[],⟨by simp,.inl ⟨rfl,rfl⟩⟩,fun j p h=>by simp at h⟩
theorem DoR.nil (B:Nat) (w:World):DoR B w (.slice none 0 0) []:=⟨[],⟨by simp,.inl ⟨rfl,rfl⟩⟩,fun j p h=>by simp at h⟩
theorem yO {B:Nat} {w:World} {e:TypeId} {size n:Nat} {v:Value} {xs:List Value} (h:w.ownsRow B e size v n xs):∃ a cap,v=.slice a n cap:=by
 rcases h.2 with ⟨hv,y⟩ | ⟨g,cap,A,hv,_⟩
 ·exact ⟨none,0,by rw [hv,y]⟩
 ·exact ⟨_,cap,hv⟩
theorem PoR.base {B B':Nat} {w:World} {v:Value} {ps:List Pc} (h:PoR B w v ps) (y:B'<=B):PoR B' w v ps:=by
 obtain ⟨xs,D,M⟩:=h;refine ⟨xs,dP y D,fun j p J=>?_⟩;obtain ⟨tv,G,N,E,A⟩:=M j p J;exact ⟨tv,G,N,E,A.turn (Zo.base y)⟩
theorem PoR.pi {B:Nat} {w:World} {v:Value} {ps:List Pc} (h:PoR B w v ps):PiR B w none v ps:=by
 obtain ⟨xs,y,U⟩:=h;rcases id y.2 with ⟨hv,G⟩ | ⟨g,cap,X,hv,Z,M,A,D,_⟩
 ·refine ⟨none,0,by rw [hv,G],by omega,by unfold maxLen;omega,fun E=>absurd (List.eq_nil_of_length_eq_zero G) E⟩
 ·refine ⟨_,cap,hv,A,D,fun E=>⟨g,0,rfl,?_,fun j p J=>?_⟩⟩
  ·have:=World.ownsRow.lt y g (by rw [hv];rfl);exact ⟨this.1,this.2,by simp⟩
  ·obtain ⟨tv,S,Y,O,N⟩:=U j p J;have hj:=(List.getElem?_eq_some_iff.1 J).1;rw [hv] at y;refine ⟨tv,?_,?_,?_,N.turn Zo.off⟩
   ·rw [Nat.zero_add,World.ownsRow.cellAt y (j*3) (by omega)];exact S
   ·rw [Nat.zero_add,World.ownsRow.cellAt y (j*3+1) (by omega)];exact Y
   ·rw [Nat.zero_add,World.ownsRow.cellAt y (j*3+2) (by omega)];exact O
theorem DoR.di {B:Nat} {w:World} {v:Value} {y:List (List Pc)} (h:DoR B w v y):DiR B w none v y:=by
 obtain ⟨xs,A,S⟩:=h;rcases id A.2 with ⟨hv,J⟩ | ⟨g,cap,U,hv,Y,N,D,E,_⟩
 ·refine ⟨none,0,by rw [hv,J],by omega,by unfold maxLen;omega,fun G=>absurd (List.eq_nil_of_length_eq_zero J) G⟩
 ·refine ⟨_,cap,hv,D,E,fun G=>⟨g,0,rfl,?_,fun j p M=>?_⟩⟩
  ·have:=World.ownsRow.lt A g (by rw [hv];rfl);exact ⟨this.1,this.2,by simp⟩
  ·obtain ⟨u,O,X⟩:=S j p M;have Z:=(List.getElem?_eq_some_iff.1 M).1;rw [hv] at A;exact ⟨u,by rw [Nat.zero_add,World.ownsRow.cellAt A j (by omega)];exact O,X.turn Zo.off⟩
theorem aIc:(prog.info? 95).map (fun i=>(i.zero,i.size,i.bytes))=some (some (.agg #[.int .i64 0,.slice none 0 0,.int .i64 0]),3,40):=by kernel_rfl
theorem aLE:(prog.info? 30).map (fun i=>(i.zero,i.size,i.bytes))=some (some (.slice none 0 0),1,24):=by kernel_rfl
def pcC (p:Pc) (tv:Value):List Value:=[.int .i64 p.k,tv,.int .i64 p.n]
def lN:List Pc->List Value->List Value
 | p::ps,tv::tvs=>pcC p tv++lN ps tvs
 | _,_=>[]
theorem aDD:∀ (ps:List Pc) (y:List Value),y.length=ps.length->(lN ps y).length=ps.length*3
 | [],[],_=>rfl
 | _::ps,_::y,h=>by simp only [List.length_cons,Nat.add_right_cancel_iff] at h;simp only [lN,pcC,List.length_append,List.length_cons,List.length_nil,aDD ps y h];omega
 | [],_::_,h=>by simp at h
 | _::_,[],h=>by simp at h
theorem tS:∀ (ps:List Pc) (h:List Value) (j:Nat) (p:Pc) (tv:Value),ps[j]?=some p->h[j]?=some tv->(lN ps h)[j*3]?=some (.int .i64 p.k)/\(lN ps h)[j*3+1]?=some tv/\(lN ps h)[j*3+2]?=some (.int .i64 p.n)
 | p0::ps,t0::h,0,p,tv,hp,ht=>by simp at hp ht;subst hp ht;exact ⟨rfl,rfl,rfl⟩
 | p0::ps,t0::h,j+1,p,tv,hp,ht=>by
   obtain ⟨y,D,A⟩:=tS ps h j p tv (by simpa using hp) (by simpa using ht);refine ⟨?_,?_,?_⟩
   ·rw [show (j+1)*3=j*3+3 by omega];simpa [lN,pcC] using y
   ·rw [show (j+1)*3+1=(j*3+1)+3 by omega];simpa [lN,pcC] using D
   ·rw [show (j+1)*3+2=(j*3+2)+3 by omega];simpa [lN,pcC] using A
 | [],_,_,_,_,hp,_=>by simp at hp
 | _::_,[],_,_,_,_,ht=>by simp at ht
theorem zN:∀ (ps:List Pc) (y:List Value),y.length=ps.length->∀ (i:Nat) (u:Value),(lN ps y)[i]?=some u->∃ (j:Nat) (p:Pc) (tv:Value),ps[j]?=some p/\y[j]?=some tv/\((i=j*3/\u=.int .i64 p.k)\/(i=j*3+1/\u=tv)\/(i=j*3+2/\u=.int .i64 p.n))
 | [],[],_,i,u,h=>by simp [lN] at h
 | p::ps,tv::y,hl,i,u,h=>by
   simp only [List.length_cons,Nat.add_right_cancel_iff] at hl
   match i,h with
   | 0,h=>simp [lN,pcC] at h;exact ⟨0,p,tv,rfl,rfl,.inl ⟨rfl,h.symm⟩⟩
   | 1,h=>simp [lN,pcC] at h;exact ⟨0,p,tv,rfl,rfl,.inr (.inl ⟨rfl,h.symm⟩)⟩
   | 2,h=>simp [lN,pcC] at h;exact ⟨0,p,tv,rfl,rfl,.inr (.inr ⟨rfl,h.symm⟩)⟩
   | i+3,h=>
     obtain ⟨j,q,t,D,E,A⟩:=zN ps y hl i u (by simpa [lN,pcC] using h);refine ⟨j+1,q,t,by simpa using D,by simpa using E,?_⟩;rcases A with ⟨e,A⟩ | ⟨e,A⟩ | ⟨e,A⟩
     ·exact .inl ⟨by omega,A⟩
     ·exact .inr (.inl ⟨by omega,A⟩)
     ·exact .inr (.inr ⟨by omega,A⟩)
 | [],_::_,h,_,_,_=>by simp at h
 | _::_,[],h,_,_,_=>by simp at h
theorem aBa {B:Nat} {w:World} {r:Option Nat} {b off:Nat} : ∀ (ps:List Pc) (o:Nat),(∀ (j:Nat) (p:Pc),ps[j]?=some p->PcR B w r b (off+(o+j)*3) p)->∃ y:List Value,y.length=ps.length/\∀ (j:Nat) (p:Pc) (tv:Value),ps[j]?=some p->y[j]?=some tv->
  w.cell? ⟨b,off+(o+j)*3,none⟩=some (.int .i64 p.k)/\w.cell? ⟨b,off+(o+j)*3+1,none⟩=some tv/\w.cell? ⟨b,off+(o+j)*3+2,none⟩=some (.int .i64 p.n)/\TxR B w r tv p.t
 | [],o,_=>⟨[],rfl,fun j p tv h _=>by simp at h⟩
 | p::ps,o,h=>by
   obtain ⟨tv,M,O,J,G⟩:=h 0 p rfl;obtain ⟨y,E,N⟩:=aBa ps (o+1) (fun j q A=>by rw [show o+1+j=o+(j+1) by omega];exact h (j+1) q (by simpa using A));refine ⟨tv::y,by simp [E],fun j q u A D=>?_⟩
   match j,A,D with
   | 0,A,D=>simp at A D;subst A D;exact ⟨M,O,J,G⟩
   | j+1,A,D=>rw [show o+(j+1)=o+1+j by omega];exact N j q u (by simpa using A) (by simpa using D)
theorem nK {v:Value} {n:Nat} (h:Sl v n):v.oneCell'=true:=by
 obtain ⟨a,cap,rfl,_⟩:=h;rfl
theorem tJ (B:Nat) (w:World) (v u:Value) (ps qs:List Pc) (hv:PoR B w v ps) (hu:PiR B w v.ownBlock u qs) (hB:B<=w.heap.size) (hn:ps.length+qs.length<=1000000000000) :
  ∃ O w',(Builtin.append_ #[30,30] 30 #[v,u]).run prog w=.ok O w'/\PoR B w' O (ps++qs)/\w.grownBy w' v.ownBlock/\(O.ownBlock=v.ownBlock\/O.ownBlock=some w.heap.size):=by
 obtain ⟨i0,hi,b7,b1,b6⟩:=info_parts aIc;obtain ⟨xs,ho,ht⟩:=hv;obtain ⟨a,cap,rfl,d6,d3,hq⟩:=hu;cases a with
 | none=>
   have b5:qs=[]:=by
    rcases qs with _ | ⟨z,zs⟩
    ·rfl
    ·obtain ⟨b,off,Y,_⟩:=hq (by simp);cases Y
   subst b5;exact ⟨v,w,rF B _ _ _ i0 3 underlying30 hi v _ _ ho cap,by rw [List.append_nil];exact ⟨xs,ho,ht⟩,World.grownBy.refl _ _,.inl rfl⟩
 | some ad=>
   obtain ⟨y,Z,E,N⟩:∃ y:List Value,y.length=qs.length/\(∀ (j:Nat) (p:Pc) (tv:Value),qs[j]?=some p->y[j]?=some tv->TxR B w v.ownBlock tv p.t)/\∀ (j:Nat) (x:Value),(lN qs y)[j]?=some x->w.cell? (ad.add j)=some x:=by
    by_cases h0:qs=[]
    ·subst h0;exact ⟨[],rfl,fun j p tv h _=>by simp at h,fun j x h=>by simp [lN] at h⟩
    ·obtain ⟨b,off,Y,S,M⟩:=hq h0;cases Y;obtain ⟨y,hl,hh⟩:=aBa (B:=B) (w:=w) (r:=v.ownBlock) (b:=b) (off:=off) qs 0 (fun j p D=>by rw [Nat.zero_add];exact M j p D);refine ⟨y,hl,fun j p tv D E=>(hh j p tv D E).2.2.2,fun i x hx=>?_⟩;obtain ⟨j,p,tv,D,E,A⟩:=zN qs y hl i x hx;obtain ⟨c1,c2,c3,_⟩:=hh j p tv D E;rw [Addr.add_lit];rw [Nat.zero_add] at c1 c2 c3;rcases A with ⟨rfl,rfl⟩ | ⟨rfl,rfl⟩ | ⟨rfl,rfl⟩
     ·exact c1
     ·exact c2
     ·exact c3
   obtain ⟨O,w',a5,h1,h2,_,h4⟩:=run_append_own_at (P:=prog) w B 30 30 95 i0 (.agg #[.int .i64 0,.slice none 0 0,.int .i64 0]) 3 40 underlying30 hi b7 b1 b6 rfl (by decide) v ps.length xs ho ad qs.length cap (lN qs y) (aDD qs y Z) N
    (by
     intro x hx;obtain ⟨i,b0,rfl⟩:=List.getElem_of_mem hx;obtain ⟨j,p,tv,D,b4,A⟩:=zN qs y Z i _ (List.getElem?_eq_getElem b0);rcases A with ⟨_,e⟩ | ⟨_,e⟩ | ⟨_,e⟩
     ·rw [e];rfl
     ·rw [e];exact nK (E j p tv D b4).sl
     ·rw [e];rfl) (by unfold maxLen;omega) (by omega) hB
   refine ⟨O,w',a5,⟨xs++lN qs y,by rw [List.length_append];exact h1,fun j p D=>?_⟩,h2,h4⟩;have d2:=ho.1
   have J:∀ tv,TxR B w v.ownBlock tv p.t->TxR B w' O.ownBlock tv p.t:=fun tv hT=>by
    rcases h4 with e | e
    ·rw [e];exact hT.row h2
    ·rw [e];obtain ⟨a2,a4,e2,X,U,k3⟩:=hT;refine ⟨a2,a4,e2,X,U,fun h0=>?_⟩;obtain ⟨b,off,Y,S,M⟩:=k3 h0;exact ⟨b,off,Y,⟨S.1,Nat.lt_of_lt_of_le S.2.1 h2.size,fun e=>by have:=S.2.1;cases e;omega⟩,fun j hj=>h2.cell (M j hj) S.2.2⟩
   by_cases hj:j<ps.length
   ·rw [List.getElem?_append_left hj] at D;obtain ⟨tv,X,U,k3,k4⟩:=ht j p D;refine ⟨tv,?_,?_,?_,J tv k4⟩
    ·rw [List.getElem?_append_left (by omega)];exact X
    ·rw [List.getElem?_append_left (by omega)];exact U
    ·rw [List.getElem?_append_left (by omega)];exact k3
   ·rw [List.getElem?_append_right (by omega)] at D;have f3:=(List.getElem?_eq_some_iff.1 D).1;obtain ⟨tv,G⟩:∃ tv,y[j - ps.length]?=some tv:=⟨y[j - ps.length]'(by omega),List.getElem?_eq_getElem (by omega)⟩;obtain ⟨X,U,k3⟩:=tS qs y (j - ps.length) p tv D G;refine ⟨tv,?_,?_,?_,J tv (E _ p tv D G)⟩
    ·rw [List.getElem?_append_right (by omega),show j*3 - xs.length=(j - ps.length)*3 by omega];exact X
    ·rw [List.getElem?_append_right (by omega),show j*3+1 - xs.length=(j - ps.length)*3+1 by omega];exact U
    ·rw [List.getElem?_append_right (by omega),show j*3+2 - xs.length=(j - ps.length)*3+2 by omega];exact k3
theorem PiR.sl {B:Nat} {w:World} {r:Option Nat} {v:Value} {ps:List Pc} (h:PiR B w r v ps):Sl v ps.length:=by
 obtain ⟨a,cap,e,y,A,_⟩:=h;exact ⟨a,cap,e,y,A⟩
theorem aEl (B:Nat) (w:World) (v u:Value) (b:Nat) (h:List (List Pc)) (ds:List Pc) (hv:DoR B w v h) (hc:w.cell? ⟨b,0,none⟩=some u) (hu:PiR B w v.ownBlock u ds) (hB:B<=w.heap.size) (hn:h.length<=1000000000000) :
  ∃ G w',(Builtin.append_ #[89,89] 89 #[v,.slice (some ⟨b,0,none⟩) 1 1]).run prog w=.ok G w'/\DoR B w' G (h++[ds])/\w.grownBy w' v.ownBlock/\(G.ownBlock=v.ownBlock\/G.ownBlock=some w.heap.size):=by
 obtain ⟨i0,hi,b5,a4,b4⟩:=info_parts aLE;obtain ⟨xs,ho,ht⟩:=hv
 have E:∀ j x,([u]:List Value)[j]?=some x->w.cell? ((⟨b,0,none⟩:Addr).add j)=some x:=by
  intro j x y;rw [Addr.add_lit,Nat.zero_add]
  match j,y with
  | 0,y=>simp at y;subst y;exact hc
  | j+1,y=>simp at y
 obtain ⟨G,w',Y,h1,J,_,h4⟩:=run_append_own_at (P:=prog) w B 89 89 30 i0 (.slice none 0 0) 1 24 underlying89 hi b5 a4 b4 rfl (by decide) v h.length xs ho ⟨b,0,none⟩ 1 1 [u] rfl E
   (by intro x hx;simp at hx;subst hx;exact nK hu.sl) (by unfold maxLen;omega) (by omega) hB
 refine ⟨G,w',Y,⟨xs++[u],by simpa using h1,fun j p M=>?_⟩,J,h4⟩;have c7:=ho.1
 have D:∀ x (q:List Pc),PiR B w v.ownBlock x q->PiR B w' G.ownBlock x q:=fun x q hT=>by
  have h3:=hT.row J;rcases h4 with e | e
  ·rw [e];exact h3
  ·rw [e];obtain ⟨a2,U,e2,k1,k2,k3⟩:=hT
   exact (⟨a2,U,e2,k1,k2,fun h0=>by
    obtain ⟨b,off,ha,A,Z⟩:=k3 h0;have X:∀ b,Zo B w v.ownBlock b->Zo B w' (some w.heap.size) b:=fun b A=>⟨A.1,Nat.lt_of_lt_of_le A.2.1 J.size,fun e=>by have:=A.2.1;cases e;omega⟩;refine ⟨b,off,ha,X b A,fun j p M=>?_⟩;obtain ⟨tv,c1,c2,c3,c4⟩:=Z j p M;refine ⟨tv,J.cell c1 A.2.2,J.cell c2 A.2.2,J.cell c3 A.2.2,?_⟩;obtain ⟨a5,O,e5,m1,m2,m3⟩:=c4;refine ⟨a5,O,e5,m1,m2,fun h0=>?_⟩;obtain ⟨b6,S,b1,N,a8⟩:=m3 h0;exact ⟨b6,S,b1,X b6 N,fun j y=>J.cell (a8 j y) N.2.2⟩⟩:PiR B w' (some w.heap.size) x q)
 by_cases y:j<h.length
 ·rw [List.getElem?_append_left y] at M;obtain ⟨x,k1,k2⟩:=ht j p M;exact ⟨x,by rw [List.getElem?_append_left (by omega)];exact k1,D x p k2⟩
 ·have b2:=(List.getElem?_eq_some_iff.1 M).1;simp at b2;have b3:j=h.length:=(by omega);subst b3;simp at M;subst M;exact ⟨u,by rw [show h.length=xs.length by omega];simp,D u ds hu⟩
theorem aD9 (w:World) (k n:Int) (tv:Value) (t:List Int) (B:Nat) (y:B<=w.heap.size) (A:TxR B (w.alloc (Obj.cells #[.int .i64 k,tv,.int .i64 n] 95)) (some w.heap.size) tv t) :
  PoR B (w.alloc (Obj.cells #[.int .i64 k,tv,.int .i64 n] 95)) (.slice (some ⟨w.heap.size,0,none⟩) 1 1) [⟨k,t,n⟩]:=by
 refine ⟨[.int .i64 k,tv,.int .i64 n],⟨by simp,.inr ⟨w.heap.size,1,#[.int .i64 k,tv,.int .i64 n],rfl,y,by show (w.heap.push _)[w.heap.size]?=_;simp,Nat.le_refl _,by unfold maxLen;omega,by simp,by simp⟩⟩,fun j p h=>?_⟩
 match j,h with
 | 0,h=>simp at h;subst h;exact ⟨tv,rfl,rfl,rfl,A⟩
 | j+1,h=>simp at h
theorem dJ (k:Int) (w:World) :
  Calls prog 42 #[.int .i64 k] w fun e w'=>∃ h,e=.returned h/\PoR w.heap.size w' h (aH k)/\w.grownBy w' none:=by
 go_enter func42,ntmps42
 go_wp2;go_ret;exact ⟨_,rfl,aD9 w k 0 _ [] _ (Nat.le_refl _) (TxR.nil _ _ _),gWA⟩
theorem aEO (w:World) (h:List Int) (A:Bys h) (c:Nat) :
  RdB (w.alloc (.cells (bytesRow (strOfNums h) c) 5 ((bytesRow (strOfNums h) c).size,(bytesRow (strOfNums h) c).size+1))).heap.size (w.alloc (.cells (bytesRow (strOfNums h) c) 5 ((bytesRow (strOfNums h) c).size,(bytesRow (strOfNums h) c).size+1))) (.slice (some ⟨w.heap.size,0,none⟩) h.length c) h:=by
 refine ⟨_,c,rfl,fun _=>⟨w.heap.size,0,rfl,by simp,fun j y=>?_⟩⟩;have:=World.cell?_alloc_mark w (bytesRow (strOfNums h) c) 5 ((bytesRow (strOfNums h) c).size,(bytesRow (strOfNums h) c).size+1) j;rw [Nat.zero_add,this];have D:=A _ (List.getElem_mem y);unfold bytesRow;rw [Array.getElem?_append_left (by simp [strOfNums,y])];simp [strOfNums,y];omega
theorem zK (y:List Int) (O:Bys y) (S:y.length<=1000000000) (w:World) :
  ∃ cap w',(convert 9 22 (.string (strOfNums y))).run prog w=.ok (.slice (some ⟨w.heap.size,0,none⟩) y.length cap) w'/\TxR w.heap.size w' none (.slice (some ⟨w.heap.size,0,none⟩) y.length cap) y/\w.grownBy w' none/\w'.heap.size=w.heap.size+1/\∀ j,j<y.length->w'.frozen? ⟨w.heap.size,j,none⟩=false:=by
 have h:=run_bytes_of_string (P:=prog) w 9 22 5 (strOfNums y) underlying9 underlying22 underlying5;rw [strOfNums_size] at h;refine ⟨_,_,h,?_,?_,?_,?_⟩
 ·obtain ⟨a,cap,e,N⟩:=aEO w.drew y O (grownCap w y.length 0 5);simp only [Value.slice.injEq] at e;obtain ⟨rfl,_,rfl⟩:=e;refine ⟨_,_,rfl,grownCap_ge _ _ _ _,grownCap_le_maxLen _ _ _ _ (by unfold maxLen;omega),fun G=>?_⟩;obtain ⟨b,off,D,A,E⟩:=N G;exact ⟨b,off,D,⟨by cases D;exact Nat.le_refl _,A,by simp⟩,E⟩
 ·have M:w.grownBy w.drew none:=⟨rfl,rfl,rfl,Nat.le_refl _,fun _ _ _=>rfl⟩;exact aA M gWA
 ·simp
 ·intro j X;have U:=grownCap_ge w y.length 0 5
  have J:(bytesRow (strOfNums y) (grownCap w y.length 0 5)).size=grownCap w y.length 0 5:=by
   simp only [bytesRow,Array.size_append,Array.size_replicate,strOfNums,ByteArray.size,List.map_toArray,List.size_toArray,List.length_map];omega
  have:=World.frozen?_alloc_mark w.drew (bytesRow (strOfNums y) (grownCap w y.length 0 5)) 5 (bytesRow (strOfNums y) (grownCap w y.length 0 5)).size ((bytesRow (strOfNums y) (grownCap w y.length 0 5)).size+1) j;refine Eq.trans this ?_;rw [J];simp;omega
theorem cL (h:List Int) (O:Bys h) (N:h.length<=1000000000) (w:World) :
  Calls prog 70 #[.string (strOfNums h)] w fun e w'=>∃ D,e=.returned D/\PoR w.heap.size w' D (aG h)/\w.grownBy w' none:=by
 obtain ⟨cap,y,G,J,A,M,_⟩:=zK h O N w
 go_enter func70,ntmps70
 go_wp2;go_ret;rw [<- M];have E:=World.grownBy_alloc y (Obj.cells #[.int .i64 1,.slice (some ⟨w.heap.size,0,none⟩) h.length cap,.int .i64 0] 95) none;exact ⟨_,rfl,aD9 y 1 0 _ h _ A.size ((J.turn (Zo.on (some y.heap.size) (Nat.le_refl _) (fun k e=>by cases e;exact .inr (Nat.le_refl _)))).K E),aA A E⟩
theorem jG (v:Value) (zs:List Int) (w:World) (hv:RdB w.heap.size w v zs) (U:zs.length<=4194304) :
  Calls prog 71 #[v] w fun e w'=>∃ N,e=.returned N/\PoR w.heap.size w' N (aG zs)/\w.grownBy w' none:=by
 have J:=aB (tB v zs w hv U);obtain ⟨a,cap,G,_⟩:=id hv;subst G;clear hv
 go_enter func71,ntmps71
 go_wp2_with fail
 refine J.out.mono ?_;rintro e A ⟨Y,rfl,D,M⟩;obtain ⟨a1,X,E,_,_⟩:=D.sl;have y:∀ b,Y.ownBlock=some b->b<A.heap.size:=fun b e=>(World.ownsRow.lt D b e).2;have S:=aB (aID (r:=some A.heap.size) D (fun b e h=>by cases h;have:=y _ e;omega));subst E;clear J D y;go_wp2;go_ret;have O:=World.grownBy_alloc A (Obj.cells #[.int .i64 1,.slice a1 zs.length X,.int .i64 0] 95) none;exact ⟨_,rfl,aD9 A 1 0 _ zs _ M.size (S.out.K O),aA M O⟩
end Go.Proofs.YtmfehflibkokbaaGreatDoor
namespace Go.Proofs.YtmfehflibkokbaaGreatDoor
open Go.Proofs.Tryz
open Go.RowKit
attribute [-go_sem] Builtin.append_
theorem PiR.at {B:Nat} {w:World} {r:Option Nat} {v:Value} {ps:List Pc} (h:PiR B w r v ps) (j:Nat) (y:j<ps.length) :
  ∃ b off cap,v=.slice (some ⟨b,off,none⟩) ps.length cap/\Zo B w r b/\PcR B w r b (off+j*3) ps[j]:=by
 obtain ⟨a,cap,hv,J,M,E⟩:=h;obtain ⟨b,off,G,A,D⟩:=E (fun e=>by rw [e] at y;simp at y);exact ⟨b,off,cap,by rw [hv,G],A,D j ps[j] (by simp [y])⟩
theorem PoR.sl {B:Nat} {w:World} {v:Value} {ps:List Pc} (h:PoR B w v ps):Sl v ps.length:=h.pi.sl
theorem PoR.lt {B:Nat} {w:World} {v:Value} {ps:List Pc} (h:PoR B w v ps):∀ k,v.ownBlock=some k->B<=k/\k<w.heap.size:=by
 obtain ⟨xs,y,_⟩:=h;exact fun k e=>World.ownsRow.lt y k e
theorem PoR.push {B:Nat} {w:World} {v:Value} {ps:List Pc} (k n:Int) (tv:Value) (t:List Int) (hv:PoR B w v ps) (O:B<=w.heap.size) (S:TxR B w v.ownBlock tv t) (U:ps.length<=100000000000) :
  ∃ y w',(Builtin.append_ #[30,30] 30 #[v,.slice (some ⟨w.heap.size,0,none⟩) 1 1]).run prog (w.alloc (Obj.cells #[.int .i64 k,tv,.int .i64 n] 95))=.ok y w'/\PoR B w' y (ps++[⟨k,t,n⟩])/\w.grownBy w' v.ownBlock/\(∃ a cap,y=.slice a (ps.length+1) cap)/\∀ x,y.ownBlock=some x->v.ownBlock=some x\/w.heap.size<=x:=by
 have g:=World.grownBy_alloc w (Obj.cells #[.int .i64 k,tv,.int .i64 n] 95) none;have M:=World.grownBy_alloc w (Obj.cells #[.int .i64 k,tv,.int .i64 n] 95) v.ownBlock
 obtain ⟨y,w',N,E,J,G⟩:=tJ B (w.alloc (Obj.cells #[.int .i64 k,tv,.int .i64 n] 95)) v (.slice (some ⟨w.heap.size,0,none⟩) 1 1) ps [⟨k,t,n⟩] (hv.K g)
  ⟨_,1,rfl,Nat.le_refl _,by unfold maxLen;omega,fun _=>⟨w.heap.size,0,rfl,⟨O,by simp,fun e=>by have:=hv.lt _ e.symm;omega⟩,fun j p A=>by
   match j,A with
   | 0,A=>simp at A;subst A;exact ⟨tv,by simp [go_sem],by simp [go_sem],by simp [go_sem],S.K g⟩
   | j+1,A=>simp at A⟩⟩ (by simp;omega) (by simp;omega)
 refine ⟨y,w',N,E,aA M J,?_⟩;obtain ⟨a,cap,e,_⟩:=E.sl;refine ⟨⟨a,cap,by simpa using e⟩,fun x D=>?_⟩;rcases G with h | h
 ·exact .inl (by rw [<- h];exact D)
 ·rw [h] at D;cases D;right;simp
theorem pL (v:Value) (ps:List Pc) (B:Nat) (w:World) (hv:PiR B w none v ps) (hn:mes ps<=4194304) :
  Calls prog 78 #[v] w fun e w'=>∃ v',e=.returned v'/\PoR w.heap.size w' v' ps/\w.grownBy w' none:=by
 have HV:=aB hv;obtain ⟨a,cap,c8,_⟩:=id hv;subst c8;have hl:=oW ps;clear hv
 go_enter func78,ntmps78
 go_wp2
 go_loopw [3,4] (fun o i W=>∃ (k:Nat),k<=ps.length/\i=.int .i64 k/\PoR w.heap.size W o (ps.take k)/\w.grownBy W none)
  (fun _ i _=>ps.length - (intOf i).toNat)
 case atStart=>exact ⟨0,Nat.zero_le _,rfl,PoR.nil _ _,World.grownBy.refl _ _⟩
 case round=>
  obtain ⟨k,hk,rfl,X,hg⟩:=hrel
  by_cases E:k<ps.length
  ·obtain ⟨b,off,a4,c4,hz,tv,c0,c1,c2,hT⟩:=(HV.out.K hg).at k E;cases c4;have d4:b<w.heap.size:=(by have:=((HV.out).at k E);obtain ⟨b',d6,a4,e,c6,_⟩:=this;cases e;exact c6.2.1);have hm:=aFo ps ps[k] (List.getElem_mem E);have gd:wr.grownBy wr.drew none:=⟨rfl,rfl,rfl,Nat.le_refl _,fun _ _ _=>rfl⟩;have HC:=aB (tB tv ps[k].t wr.drew (hT.K gd).rd (by omega));have HP:=aB (show ps.take (k+1)=ps.take k++[ps[k]] by rw [List.take_add_one];simp [E]);obtain ⟨ta,G,d0,_,_⟩:=hT.sl;subst d0;obtain ⟨oa,oc,b0,_,_⟩:=X.sl;have HO:=aB X;have a6:(ps.take k).length=k:=(by simp;omega);rw [a6] at b0;subst b0;clear hT X;generalize ps[k]=p at *;obtain ⟨I,N⟩:∃ I:World->Prop,I=(fun W:World=>W.cell? ⟨b,off+k*3,none⟩=some (.int .i64 p.k)/\W.cell? ⟨b,off+k*3+1,none⟩=some (.slice ta p.t.length G)/\W.cell? ⟨b,off+k*3+2,none⟩=some (.int .i64 p.n)):=⟨_,rfl⟩;have y:I wr.drew:=(by rw [N];exact ⟨c0,c1,c2⟩);go_wp2;refine aZ I (fun _=>false) (by kernel_rfl) ?_
   show fJ _ _ _ _ _ _ 21 (Array.replicate 21 false) _ _
   refine bK (i:=0) (.slice oa k oc) rfl y (bB rfl (fun W D=>by go_simp)) ?_;refine bK (i:=1) (.slice (some ⟨b,off,none⟩) ps.length cap) rfl y (bB rfl (fun W D=>by go_simp)) ?_;refine bK (i:=2) (.int .i64 k) rfl y (bB rfl (fun W D=>by go_simp)) ?_;refine bK (i:=3) (.pointer (some ⟨b,off+k*3,none⟩)) rfl y (bB rfl (fun W D=>by go_simp)) ?_;refine bK (i:=4) (.pointer (some ⟨b,off+k*3,none⟩)) rfl y (bB rfl (fun W D=>by go_simp)) ?_;refine bK (i:=5) (.int .i64 p.k) rfl y (bB rfl (fun W D=>by rw [N] at D;obtain ⟨h1,h2,h3⟩:=D;go_simp)) ?_;refine bK (i:=6) (.slice (some ⟨b,off,none⟩) ps.length cap) rfl y (bB rfl (fun W D=>by go_simp)) ?_;refine bK (i:=7) (.int .i64 k) rfl y (bB rfl (fun W D=>by go_simp)) ?_;refine bK (i:=8) (.pointer (some ⟨b,off+k*3,none⟩)) rfl y (bB rfl (fun W D=>by go_simp)) ?_;refine bK (i:=9) (.pointer (some ⟨b,off+k*3+1,none⟩)) rfl y (bB rfl (fun W D=>by go_simp)) ?_;refine bK (i:=10) (.slice ta p.t.length G) rfl y (bB rfl (fun W D=>by rw [N] at D;obtain ⟨h1,h2,h3⟩:=D;go_simp)) ?_;refine bK (i:=12) (.slice (some ⟨b,off,none⟩) ps.length cap) rfl y (bB rfl (fun W D=>by go_simp)) ?_;refine bK (i:=13) (.int .i64 k) rfl y (bB rfl (fun W D=>by go_simp)) ?_;refine bK (i:=14) (.pointer (some ⟨b,off+k*3,none⟩)) rfl y (bB rfl (fun W D=>by go_simp)) ?_;refine bK (i:=15) (.pointer (some ⟨b,off+k*3+2,none⟩)) rfl y (bB rfl (fun W D=>by go_simp)) ?_;refine bK (i:=16) (.int .i64 p.n) rfl y (bB rfl (fun W D=>by rw [N] at D;obtain ⟨h1,h2,h3⟩:=D;go_simp)) ?_;generalize hG:Act.put _ _ _=A0;simp [Act.put] at hG;subst hG;refine aD (i:=11) (by kernel_rfl) (dY rfl rfl (by go_simp) HC.out ?_);rintro e S ⟨v1,rfl,o1,J⟩;have A:I S:=(by rw [N];exact ⟨(aA gd J).cell c0 (by simp),(aA gd J).cell c1 (by simp),(aA gd J).cell c2 (by simp)⟩);refine ⟨_,rfl,.inr A,?_⟩;replace J:=aA gd J;have hs:=J.size;have hw:=hg.size;have M:∀ b,v1.ownBlock=some b->wr.heap.size<=b:=fun b e=>(World.ownsRow.lt o1 b e).1;have Z:TxR w.heap.size S (Value.slice oa k oc).ownBlock v1 p.t:=aID (dP hw o1) (fun b e h=>by have:=(HO.out.lt b h.symm).2;have:=M b e;omega);obtain ⟨v2,w2,f5,b1,g2,⟨a2,b2,a8⟩,_⟩:=(HO.out.K J).push p.k p.n v1 p.t (by omega) Z (by omega);rw [a6] at a8;obtain ⟨a1,U,c5,_,_⟩:=o1.sl;have d2:Hid (PoR w.heap.size w2 v2 (ps.take (k+1))):=(by unfold Hid;rw [HP.out];exact b1);have HG:Hid (w.grownBy w2 none):=bA (aA hg J) g2 (fun j e=>(HO.out.lt j e).1);have b3:∀ x,(Value.slice oa k oc).ownBlock=some x->some b≠some x:=fun x e h=>by cases h;have:=(HO.out.lt b e).1;have:=d4;omega
   have d1:I (S.alloc (Obj.cells #[.int .i64 p.k,v1,.int .i64 p.n] 95)):=by
    have g:=World.grownBy_alloc S (Obj.cells #[.int .i64 p.k,v1,.int .i64 p.n] 95) none;rw [N] at A ⊢;exact ⟨g.cell A.1 (by simp),g.cell A.2.1 (by simp),g.cell A.2.2 (by simp)⟩
   have Y:I w2:=by
    have O:some b≠(Value.slice oa k oc).ownBlock:=fun e=>b3 b e.symm rfl;rw [N] at A ⊢;exact ⟨g2.cell A.1 O,g2.cell A.2.1 O,g2.cell A.2.2 O⟩
   subst c5 a8;clear HC Z b1 g2 o1 M HP c0 c1 c2 b3;refine aD (i:=17) (by kernel_rfl) (aF (w':=S) (v:=.agg #[.int .i64 p.k,.slice a1 p.t.length U,.int .i64 p.n]) rfl rfl (by go_simp) ⟨.inr A,?_⟩);refine aD (i:=18) (by kernel_rfl) (aF (w':=S.alloc (Obj.cells #[.int .i64 p.k,.slice a1 p.t.length U,.int .i64 p.n] 95)) (v:=.slice (some ⟨S.heap.size,0,none⟩) 1 1) rfl rfl (by go_simp) ⟨.inr d1,?_⟩);refine aD (i:=19) (by kernel_rfl) (aF (w':=w2) (v:=.slice a2 (k+1) b2) rfl rfl (by go_simp) ⟨.inr Y,?_⟩);refine aD (i:=20) (by kernel_rfl) (aF (w':=w2) (v:=.slice a2 (k+1) b2) rfl rfl (by go_simp) ⟨.inr Y,?_⟩);refine bL (by kernel_rfl) ?_ _;subst N;go_wp2
   go_roundw
   case rel=>exact ⟨k+1,by omega,by go_num,d2.out,HG.out⟩
   case measure=>simp [intOf];omega
  ·have d5:k=ps.length:=(by omega);subst d5;rw [List.take_length] at X;go_wp2;go_ret;exact ⟨_,rfl,X,hg⟩
theorem oE (G n:Int) (v:Value) (ps:List Pc) (B:Nat) (w:World) (hv:PiR B w none v ps) (X:mes ps<=4194304) :
  Calls prog 74 #[.int .i64 G,v,.int .i64 n] w fun e w'=>∃ J,e=.returned J/\PoR w.heap.size w' J (ps++[⟨G,[],n⟩])/\w.grownBy w' none:=by
 have S:=aB (pL v ps B w hv X);have hl:=oW ps;obtain ⟨a,cap,D,_⟩:=id hv;subst D;clear hv
 go_enter func74,ntmps74
 go_wp2_with fail
 refine S.out.mono ?_;rintro e w1 ⟨v1,rfl,y,M⟩;have Y:=M.size;obtain ⟨v2,w2,O,h,N,⟨a2,c2,E⟩,_⟩:=y.push G n (.slice none 0 0) [] Y (TxR.nil _ _ _) (by omega);obtain ⟨a1,c1,A,_,_⟩:=y.sl;have U:Hid (w.grownBy w2 none):=bA M N (fun j e=>(y.lt j e).1);have Z:=aB h;subst A E;clear S y h N;go_wp2;go_ret;exact ⟨_,rfl,Z.out,U.out⟩
theorem fV (v:Value) (y:List (List Pc)) (B:Nat) (w:World) (hv:DiR B w none v y) (hB:B<=w.heap.size) (hn:cR y<=4194304) :
  Calls prog 43 #[v] w fun e w'=>∃ v',e=.returned v'/\PoR B w' v' (cV y)/\w.grownBy w' none:=by
 have HV:=aB hv;obtain ⟨a,cap,c5,g6,g5,hh⟩:=id hv;subst c5;clear hv;have b9:=cN y;rcases y with _ | ⟨A,y⟩
 ·have HL:=aB (dJ 0 w);simp only [List.length_nil]
  go_enter func43,ntmps43
  go_wp2_with fail
  refine HL.out.mono ?_;rintro e w1 ⟨v1,rfl,D,g1⟩;have HO:=aB (D.base hB);obtain ⟨a1,c1,J,_,_⟩:=D.sl;subst J;clear HL D;go_wp2;go_ret;exact ⟨_,rfl,HO.out,g1⟩
 ·obtain ⟨b,off,rfl,hz,hc⟩:=hh (by simp);obtain ⟨u0,c9,G⟩:=hc 0 A rfl;have Z:=aB hc;have c8:mes A<=4194304:=(by have:=aCR (A::y) A (by simp);omega);have HC:=aB (fun W (g:w.grownBy W none)=>pL u0 A B W (G.K g) c8);obtain ⟨ua,uc,hu,_,_⟩:=G.sl;subst hu;have h9:=hz.2.1;clear hh hc hz G;have b2:(A::y).length=y.length+1:=rfl;rw [b2] at *;rw [Nat.add_zero] at c9
  go_enter func43,ntmps43
  go_wp2_with fail
  refine (HC.out _ (World.grownBy.refl _ _)).mono ?_;rintro e w1 ⟨v1,rfl,D,g1⟩;obtain ⟨a1,c1,J,_,_⟩:=D.sl;have HO:=aB (D.base hB);have X:=aB (fun x e=>(D.lt x e).1);subst J;clear HC D;have HM:=aB hn;have i0:y.length<=4194304:=(by have h:=cN y;simp only [cR] at hn;omega);clear hn b9;go_wp2
  go_loopw [3,4] (fun o i W=>∃ (k:Nat),k<=y.length/\i=.int .i64 ((k:Int)+1)/\PoR B W o (A++iS (y.take k))/\w.grownBy W none/\(∀ x,o.ownBlock=some x->w.heap.size<=x))
   (fun _ i _=>y.length+1 - (intOf i).toNat)
  case atStart=>exact ⟨0,Nat.zero_le _,rfl,by simpa [iS] using HO.out,g1,X.out⟩
  case round=>
   obtain ⟨k,hk,rfl,E,Y,hx⟩:=hrel
   by_cases a5:k<y.length
   ·obtain ⟨u,hu,hd⟩:=Z.out (k+1) y[k] (by simp [a5]);have h4:=Y.cell hu (by simp);have b4:mes y[k]<=4194304:=(by have:=aCR (A::y) y[k] (by simp);have:=HM.out;omega);have h0:=oW y[k]
    have b8:(A++iS (y.take k)).length<=4194304:=by
     have h1:=oW (A++iS (y.take k));rw [iI,aDa] at h1;have h2:=HM.out;have h3:=eO (y.take k) (y.drop k);rw [List.take_append_drop] at h3;simp only [cR] at h2;omega
    obtain ⟨oa,oc,N,_,_⟩:=E.sl;subst N;have M:=(hd.turn (Zo.on (Value.slice oa (A++iS (y.take k)).length oc).ownBlock (Nat.le_refl _) (fun x e=>.inr (hx x e)))).K Y;have d0:=Y.size;obtain ⟨v2,w2,d7,O,g2,h2⟩:=tJ B wr _ u _ _ E M (by omega) (by omega);obtain ⟨a2,c2,c0,_,_⟩:=O.sl;have U:=bA Y g2 hx
    have S:∀ x,v2.ownBlock=some x->w.heap.size<=x:=fun x e=>by
     rcases h2 with h | h
     ·exact hx x (by rw [<- h];exact e)
     ·rw [h] at e;cases e;exact d0
    have d9:=U.size;obtain ⟨v3,w3,g0,a4,g3,⟨a3,c3,b3⟩,h3⟩:=O.push 6 0 (.slice none 0 0) [] (by omega) (TxR.nil _ _ _) (by simp only [List.length_append] at b8 ⊢;omega)
    have b6:Hid (PoR B w3 v3 (A++iS (y.take (k+1)))):=by
     have e:y.take (k+1)=y.take k++[y[k]]:=(by rw [List.take_add_one];simp [a5]);unfold Hid;rw [e,aBu];simpa [nF,List.append_assoc] using a4
    have c6:=aB (bA U g3 S)
    have d1:Hid (∀ x,v3.ownBlock=some x->w.heap.size<=x):=fun x e=>by
     rcases h3 x e with h | h
     ·exact S x h
     ·omega
    obtain ⟨g9,g8,d2,_,_⟩:=M.sl;subst c0 b3 d2;clear E O a4 M hd g2 g3 hx S h2 h3 hu Z HO X b4;generalize (A++iS (List.take k y)++y[k]).length=L2 at *;generalize (A++iS (List.take k y)).length=L1 at *;go_wp2
    go_roundw
    case rel=>exact ⟨k+1,by omega,by go_num,b6.out,c6.out,d1.out⟩
    case measure=>simp [intOf];omega
   ·have c7:k=y.length:=(by omega);subst c7;rw [List.take_length] at E;obtain ⟨oa,oc,N,_,_⟩:=E.sl;subst N;have c4:=aB E;clear E;go_wp2;go_ret;exact ⟨_,rfl,c4.out,Y⟩
end Go.Proofs.YtmfehflibkokbaaGreatDoor
