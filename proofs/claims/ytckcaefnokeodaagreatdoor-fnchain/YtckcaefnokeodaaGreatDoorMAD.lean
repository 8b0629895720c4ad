import Derived.Orders
import Derived.Deep.RegionWith
import Derived.Laws.AppendOwnNone
import Derived.Test.YtckcaefnokeodaaGreatDoorMAA
set_option maxHeartbeats 16000000
set_option maxRecDepth 100000
namespace Go.Proofs.YtckcaefnokeodaaGreatDoor
open Go.Proofs.Tryz List World
section
open Go.RowKit
structure Cm where
 b:Bool
 t:List Int
theorem Rd.wideC {q B} {E:Nat} {w v F} (h:Rd q B w v F) (O:B<=E):Rd q E w v F:=by
 obtain ⟨a,A,H,N⟩:=h;refine ⟨a,A,H,fun M=>?_⟩;obtain ⟨b,D,J,S,G⟩:=N M;exact ⟨b,D,J,by omega,G⟩
structure aKb (B:Nat) (w:World) (b o:Nat) (p:Cm) (tv:Value):Prop where
 k:w.cell? ⟨b,o,none⟩=some (.bool p.b)
 t:w.cell? ⟨b,o+1,none⟩=some tv
 rd:RdB B w tv p.t
 sl:Sl tv p.t.length
def RdC (B:Nat) (w:World) (v:Value) (cs:List Cm):Prop:=
 ∃ a cap,v=.slice a cs.length cap/\cs.length<=cap/\cap<=maxLen/\(cs≠[]->∃ b off,a=some ⟨b,off,none⟩/\b<B/\∀ j p,cs[j]?=some p->∃ tv,aKb B w b (off+j*2) p tv)
theorem aKb.beside {B w G b o p E A} (h:aKb B w b o p E) (J:b<B) (D:w.grownBy G A) (H:∀ k,A=some k->B<=k):aKb B G b o p E:=
 have F:some b≠A:=fun e=>by have:=H b e.symm;omega
 ⟨D.cell h.k F,D.cell h.t F,h.rd.beside D H,h.sl⟩
theorem RdC.beside {B w G v F A} (h:RdC B w v F) (M:w.grownBy G A) (hr:∀ k,A=some k->B<=k):RdC B G v F:=by
 obtain ⟨a,D,N,h1,Y,hh⟩:=h;refine ⟨a,D,N,h1,Y,fun h0=>?_⟩;obtain ⟨b,E,S,H,J⟩:=hh h0;refine ⟨b,E,S,H,fun j p O=>?_⟩;obtain ⟨Z,ht⟩:=J j p O;exact ⟨Z,ht.beside H M hr⟩
theorem RdC.K {B w w' v A} (h:RdC B w v A) (D:w.grownBy w' none):RdC B w' v A:=h.beside D (fun _ e=>by cases e)
theorem RdC.wide {B} {F:Nat} {w v G} (h:RdC B w v G) (Z:B<=F):RdC F w v G:=by
 obtain ⟨a,D,J,Y,O,hh⟩:=h;refine ⟨a,D,J,Y,O,fun h0=>?_⟩;obtain ⟨b,E,N,hb,H⟩:=hh h0;refine ⟨b,E,N,by omega,fun j p M=>?_⟩;obtain ⟨S,A⟩:=H j p M;exact ⟨S,⟨A.k,A.t,A.rd.wideC Z,A.sl⟩⟩
theorem RdC.at {B w v E} (h:RdC B w v E) (j:Nat) (F:j<E.length) :
  ∃ b A D G,v=.slice (some ⟨b,A,none⟩) E.length D/\b<B/\aKb B w b (A+j*2) E[j] G:=by
 obtain ⟨a,D,J,Y,Z,S⟩:=h;obtain ⟨b,A,M,O,H⟩:=S (fun e=>by rw [e] at F;simp at F);obtain ⟨G,N⟩:=H j E[j] (by simp [F]);exact ⟨b,A,D,G,by rw [J,M],O,N⟩
theorem RdC.sl {B w v D} (h:RdC B w v D):Sl v D.length:=by
 obtain ⟨a,A,E,G,F,_⟩:=h;exact ⟨a,A,E,G,F⟩
structure Nod where
 k:Int
 L:List Cm
 mem:Bool
 key:List Int
 X:List Int
 U:List Int
 C:Int
 tail:List Cm
structure aEq (B:Nat) (w:World) (b o:Nat) (p:Nod) (lv kv xv uv tv:Value):Prop where
 k:w.cell? ⟨b,o,none⟩=some (.int .i64 p.k)
 L:w.cell? ⟨b,o+1,none⟩=some lv
 mem:w.cell? ⟨b,o+2,none⟩=some (.bool p.mem)
 key:w.cell? ⟨b,o+3,none⟩=some kv
 X:w.cell? ⟨b,o+4,none⟩=some xv
 U:w.cell? ⟨b,o+5,none⟩=some uv
 C:w.cell? ⟨b,o+6,none⟩=some (.int .i64 p.C)
 tail:w.cell? ⟨b,o+7,none⟩=some tv
 rl:RdC B w lv p.L
 rk:RdI B w kv p.key
 sk:Sl kv p.key.length
 rx:RdB B w xv p.X
 sx:Sl xv p.X.length
 ru:RdI B w uv p.U
 su:Sl uv p.U.length
 rt:RdC B w tv p.tail
def RdN (B:Nat) (w:World) (v:Value) (ns:List Nod):Prop:=
 ∃ a cap,v=.slice a ns.length cap/\ns.length<=cap/\cap<=maxLen/\(ns≠[]->∃ b off,a=some ⟨b,off,none⟩/\b<B/\∀ j p,ns[j]?=some p->∃ lv kv xv uv tv,aEq B w b (off+j*8) p lv kv xv uv tv)
theorem aEq.beside {B w M b o p lv G J N H E} (h:aEq B w b o p lv G J N H) (O:b<B) (A:w.grownBy M E) (F:∀ k,E=some k->B<=k):aEq B M b o p lv G J N H:=
 have D:some b≠E:=fun e=>by have:=F b e.symm;omega
 ⟨A.cell h.k D,A.cell h.L D,A.cell h.mem D,A.cell h.key D,A.cell h.X D,A.cell h.U D,A.cell h.C D,A.cell h.tail D,
  h.rl.beside A F,h.rk.beside A F,h.sk,h.rx.beside A F,h.sx,h.ru.beside A F,h.su,h.rt.beside A F⟩
theorem RdN.beside {B w E v G A} (h:RdN B w v G) (S:w.grownBy E A) (M:∀ k,A=some k->B<=k):RdN B E v G:=by
 obtain ⟨a,cap,hv,h1,h2,hh⟩:=h;refine ⟨a,cap,hv,h1,h2,fun h0=>?_⟩;obtain ⟨b,D,Y,F,H⟩:=hh h0;refine ⟨b,D,Y,F,fun j p N=>?_⟩;obtain ⟨lv,J,xv,O,Z,ht⟩:=H j p N;exact ⟨lv,J,xv,O,Z,ht.beside F S M⟩
theorem RdN.K {B w w' v A} (h:RdN B w v A) (D:w.grownBy w' none):RdN B w' v A:=h.beside D (fun _ e=>by cases e)
theorem RdN.wide {B} {E:Nat} {w v F} (h:RdN B w v F) (A:B<=E):RdN E w v F:=by
 obtain ⟨a,cap,H,Y,O,hh⟩:=h;refine ⟨a,cap,H,Y,O,fun h0=>?_⟩;obtain ⟨b,D,N,hb,G⟩:=hh h0;refine ⟨b,D,N,by omega,fun j p J=>?_⟩;obtain ⟨lv,M,Z,uv,S,t⟩:=G j p J;exact ⟨lv,M,Z,uv,S,t.k,t.L,t.mem,t.key,t.X,t.U,t.C,t.tail,t.rl.wide A,t.rk.wideC A,t.sk,t.rx.wideC A,t.sx,t.ru.wideC A,t.su,t.rt.wide A⟩
theorem RdN.at {B w v D} (h:RdN B w v D) (j:Nat) (F:j<D.length) :
  ∃ b A cap lv E H J G,v=.slice (some ⟨b,A,none⟩) D.length cap/\b<B/\aEq B w b (A+j*8) D[j] lv E H J G:=by
 obtain ⟨a,cap,N,h1,h2,Z⟩:=h;obtain ⟨b,A,O,Y,M⟩:=Z (fun e=>by rw [e] at F;simp at F);obtain ⟨lv,E,H,J,G,S⟩:=M j D[j] (by simp [F]);exact ⟨b,A,cap,lv,E,H,J,G,by rw [N,O],Y,S⟩
end
section
variable {P:Program} {ops:Array Oper} {Q:Exit->Act->World->Prop} {md:Region.Mode} {I:World->Prop} {ex:Nat->Bool}
def fK (P:Program) (md:Region.Mode) (ops:Array Oper) (Q:Exit->Act->World->Prop) (I:World->Prop) (ex:Nat->Bool):Nat->Array Bool->Act->World->Prop
 | 0,listed,a,w=>Region.ready md ops listed=[]/\Q .normal a w
 | fuel+1,listed,a,w=>(Region.ready md ops listed=[]->Q .normal a w)/\
   ∀ i∈Region.ready md ops listed,wpOp P ops Q i (fun a' w'=>(ex i=true\/I w')/\fK P md ops Q I ex fuel (listed.setIfInBounds i true) a' w') a w
theorem yW:∀ (A:Nat) (D:Array Bool) (a:Act) (w:World),fK P md ops Q I ex A D a w->wpAny P md ops Q A D a w
 | 0,_,_,_,h=>h
 | A+1,_,_,_,h=>⟨h.1,fun i G=>wpOp_mono (fun E F H=>yW A _ E F H.2) (h.2 i G)⟩
theorem aW (I:World->Prop) (ex:Nat->Bool) {A:Nat} {a:Act} {w:World} (D:P.follows .mixedOrders=true) (h:fK P .any ops Q I ex ops.size (Array.replicate ops.size false) a w.drew):(Code.region A ops true).wp P Q a w:=
 wp_region_any D (yW _ _ _ _ h)
theorem aF1 {j:Nat} {D:Oper} {K:Act->World->Prop} {a:Act} {w:World} (H:ops[j]?=some D) (h:wpOp P ops Q j K a w) :
  wpOp P ops Q j (fun G E=>K G E/\∃ J u,G=({ a with defers:=J } : Act).put D.dst u) a w:=by
 unfold wpOp at *;simp only [H] at *
 split
 .rename_i hw
  simp only [hw,if_true] at h;rcases h with h | h
  case inr=>exact .inr h
  refine .inl ?_;unfold Oper.wp at *;generalize (execOp a.eval D).run P w=r at *;cases r with
  | halt x E=>cases x<;>simp only [Oper.upon] at h ⊢ <;> exact h
  | ok n E=>
    cases n<;>simp only [Oper.upon] at h ⊢
    case value u=>exact ⟨h,a.defers,u,rfl⟩
    case skip=>exact ⟨h,a.defers,undef,rfl⟩
    case defer d=>exact ⟨h,d::a.defers,undef,rfl⟩
    case enter f args=>
     refine Calls.mono h fun e F A=>?_;cases e with
     | returned u=>exact ⟨A,a.defers,u,rfl⟩
     | panicked c=>exact A
     | outgrown=>exact A
    case row row args=>exact Rows.mono h fun u F A=>⟨A,a.defers,u,rfl⟩
 .rename_i hw
  simp only [hw] at h;exact ⟨h,a.defers,undef,rfl⟩
def vC (P:Program) (ops:Array Oper) (I:World->Prop) (o:Oper) (v:Value) (a:Act):Prop:=
 Region.wanted o (yielded ops a.tmps)=true/\∀ w,I w->(execOp a.eval o).run P w=.ok (.value v) w
def aHO (md:Region.Mode) (ops:Array Oper) (ex:Nat->Bool) (i:Nat):Bool:=
 (range ops.size).all fun j=>!ex j||match ops[j]? with
  | some o=>o.after.any fun e=>Region.binds md e&&e.on==i
  | none=>true
theorem aHi {i j:Nat} {F:Oper} (h:aHO md ops ex i=true) (G:ops[j]?=some F) (D:∀ e∈F.after,Region.binds md e=true->e.on≠i):ex j=false:=by
 simp only [aHO,all_eq_true,mem_range] at h;have A:=h j (Array.getElem?_eq_some_iff.1 G).1;simp only [G,Bool.or_eq_true,Bool.not_eq_true'] at A;rcases A with A | A
 .exact A
 .obtain ⟨e,H,E⟩:=Array.any_eq_true'.1 A;simp only [Bool.and_eq_true,beq_iff_eq] at E;exact absurd E.2 (D e H E.1)
def wI (o:Oper) (v:Value):Oper:={ dst:=o.dst,op:=.move (.const v),type:=o.type,pos:=o.pos,after:=#[],guard:=none }
theorem aAt (o:Oper) (v:Value) (a:Act):Yields P ops (wI o v) v a:=.inl ⟨rfl,fun _=>rfl⟩
theorem aBP {o A:Oper} {v:Value} (h:o.apart ops A=true):(wI o v).apart ops A=true:=by
 have D:(wI o v).looksAt ops=[]:=(by simp [Oper.looksAt,wI,Op.operands]);unfold Oper.apart at *;rw [Bool.and_eq_true] at h;rw [D,Bool.and_eq_true];refine ⟨h.1,?_⟩;cases A.dst<;>simp
theorem aF2 {i:Nat} {F:Oper} {v:Value} (hi:ops[i]?=some F) (Z:Region.noSelect ops=true) (b4:aHO md ops ex i=true)
  (hQ:∀ c a w,Q (.panic c) (a.put F.dst v) w->Q (.panic c) a w) :
  ∀ (D:Nat) (A:Array Bool) (a:Act) (w:World),
   (∀ j M,ops[j]?=some M->j≠i->A.getD j true=false->(∀ e∈M.after,Region.binds md e=true->e.on≠i)->F.apart ops M=true)->
   i∈Region.ready md ops A->vC P ops I F v a->I w->
   fK P md ops Q I ex D (A.setIfInBounds i true) (a.put F.dst v) w->fK P md ops Q I ex (D+1) A a w:=by
 have O:∀ (D:Nat) (A:Array Bool) (a:Act) (w:World),vC P ops I F v a->I w->fK P md ops Q I ex D (A.setIfInBounds i true) (a.put F.dst v) w->
   wpOp P ops Q i (fun a' w'=>(ex i=true\/I w')/\fK P md ops Q I ex D (A.setIfInBounds i true) a' w') a w:=by
  intro D A a w S hw H;unfold wpOp;simp only [hi,S.1,if_true];refine .inl ?_;unfold Oper.wp;rw [S.2 w hw];exact ⟨.inr hw,H⟩
 intro D
 induction D with
 | zero=>
   intro A a w _ hr S hw H;refine ⟨fun h=>(by rw [h] at hr;cases hr),fun j hj=>?_⟩
   by_cases E:j=i
   .subst E;exact O 0 A a w S hw H
   .have:=ready_mono hj E;rw [H.1] at this;cases this
 | succ D ih=>
   intro A a w G hr S hw H;refine ⟨fun h=>(by rw [h] at hr;cases hr),fun j hj=>?_⟩
   by_cases E:j=i
   .subst E;exact O _ A a w S hw H
   .have h1:=H.2 j (ready_mono hj E);obtain ⟨N,M,J,b0⟩:=mem_ready.1 hj
    have Y:∀ e∈M.after,Region.binds md e=true->e.on≠i:=fun e he hb b7=>by
     have h2:=b0 e he hb;have h0:=(mem_ready.1 hr).1;rw [b7] at h2;rcases Nat.lt_or_ge i A.size with h' | h'
     .simp [h'] at h0 h2;rw [h0] at h2;cases h2
     .simp [Array.getElem?_eq_none h'] at h2
    have a8:=G j M J E N Y;have a4:=aHi b4 J Y;have h2:=aF1 J (wpOp_put J (aBP (v:=v) a8) (fun cs b=>by simp [wI]) (fun cs b=>Region.noSelect_spec Z j M cs b J) hQ (aAt F v a) h1);obtain ⟨_,_,h3⟩:=Oper.apart_spec a8;refine wpOp_mono (fun a' w' h4=>?_) h2;obtain ⟨⟨_,hI,a1⟩,ds,u,rfl⟩:=h4;have a7:I w':=hI.resolve_left (by rw [a4];simp);refine ⟨.inr a7,ih (A.setIfInBounds j true) _ w' ?_ (ready_mono hr (Ne.symm E)) ?_ a7 ?_⟩
    .intro k ok hk b3 a5 b5;refine G k ok hk b3 ?_ b5
     by_cases a9:j=k
     .subst a9;exact N
     .rw [getD_set_ne true a9] at a5;exact a5
    .refine ⟨?_,?_⟩
     .rw [wanted_put F _ M.dst u h3];exact S.1
     .rw [execOp_put F (fun cs b=>Region.noSelect_spec Z i F cs b hi) _ M.dst u h3];exact S.2
    .rw [Array.setIfInBounds_comm _ _ E];exact a1
theorem hZ {i:Nat} {D:Oper} (v:Value) {fuel:Nat} {A:Array Bool} {a:Act} {w:World} (F:ops[i]?=some D) (N:Region.noSelect ops=true) (G:Region.free md ops A i=true)
  (O:(Region.ready md ops A).contains i=true) (E:aHO md ops ex i=true) (M:∀ c a w,Q (.panic c) (a.put D.dst v) w->Q (.panic c) a w) (J:I w) (H:vC P ops I D v a)
  (h:fK P md ops Q I ex fuel (A.setIfInBounds i true) (a.put D.dst v) w):fK P md ops Q I ex (fuel+1) A a w:=
 aF2 F N E M fuel A a w (Region.free_spec F G) (by simpa using O) H J h
theorem bG {i:Nat} {E:Oper} (v:Value) {D:Nat} {A:Array Bool} {a:Act} {w:World} (N:ops[i]?=some E) (J:I w) (H:vC P ops I E v a) (h:fK P md ops Q I ex D (A.setIfInBounds i true) (a.put E.dst v) w) (O:Region.noSelect ops=true:=by kernel_rfl) (G:Region.free md ops A i=true:=by kernel_rfl)
  (S:(Region.ready md ops A).contains i=true:=by kernel_rfl) (F:aHO md ops ex i=true:=by kernel_rfl) (M:∀ c a w,Q (.panic c) (a.put E.dst v) w->Q (.panic c) a w:=by exact fun _ _ _ h=>h):fK P md ops Q I ex (D+1) A a w:=
 hZ v N O G S F M J H h
theorem aG {i:Nat} {D:Nat} {A:Array Bool} {a:Act} {w:World} (G:Region.ready md ops A=[i])
  (h:wpOp P ops Q i (fun H w'=>(ex i=true\/I w')/\fK P md ops Q I ex D (A.setIfInBounds i true) H w') a w):fK P md ops Q I ex (D+1) A a w:=
 ⟨fun F=>(by rw [G] at F;cases F),fun j E=>by rw [G] at E;simp at E;subst E;exact h⟩
theorem bK {A:Array Bool} {a:Act} {w:World} (E:Region.ready md ops A=[]) (h:Q .normal a w):∀ D,fK P md ops Q I ex D A a w
 | 0=>⟨E,h⟩
 | _+1=>⟨fun _=>h,by rw [E];simp⟩
theorem bM {i:Nat} {o:Oper} {K:Act->World->Prop} {a:Act} {w w':World} {v:Value} (D:ops[i]?=some o) (E:o.guard=none) (A:(execOp a.eval o).run P w=.ok (.value v) w') (h:K (a.put o.dst v) w'):wpOp P ops Q i K a w:=by
 unfold wpOp;have F:Region.wanted o (yielded ops a.tmps)=true:=(by simp [Region.wanted,E]);simp only [D,F,if_true];refine .inl ?_;unfold Oper.wp;rw [A];exact h
theorem eH {i:Nat} {o:Oper} {K:Act->World->Prop} {a:Act} {w w':World} (D:ops[i]?=some o) (E:o.guard=none) (A:(execOp a.eval o).run P w=.ok .skip w') (h:K (a.put o.dst undef) w'):wpOp P ops Q i K a w:=by
 unfold wpOp;have F:Region.wanted o (yielded ops a.tmps)=true:=(by simp [Region.wanted,E]);simp only [D,F,if_true];refine .inl ?_;unfold Oper.wp;rw [A];exact h
theorem eW {i:Nat} {o:Oper} {K:Act->World->Prop} {a:Act} {w E:World} {f:FuncId} {args:Array Value} {R:Ending->World->Prop} (M:ops[i]?=some o) (H:o.guard=none) (A:(execOp a.eval o).run P w=.ok (.enter f args) E)
  (G:Calls P f args E R) (h:∀ e D,R e D->∃ v,e=.returned v/\K (a.put o.dst v) D):wpOp P ops Q i K a w:=by
 unfold wpOp;have J:Region.wanted o (yielded ops a.tmps)=true:=(by simp [Region.wanted,H]);simp only [M,J,if_true];refine .inl ?_;unfold Oper.wp;rw [A];refine Calls.mono G fun e D N=>?_;obtain ⟨v,rfl,F⟩:=h e D N;exact F
theorem bI {o:Oper} {v:Value} {a:Act} (A:o.guard=none) (h:∀ w,I w->(execOp a.eval o).run P w=.ok (.value v) w):vC P ops I o v a:=
 ⟨by simp [Region.wanted,A],h⟩
end
open Go.RowKit
structure Tre where
 N:List Nod
 tail:List Cm
def eV (B:Nat) (w:World) (nv tv:Value) (t:Tre):Prop:=RdN B w nv t.N/\RdC B w tv t.tail
theorem aC8 (p) (h:cC p=true):1<=cP p/\cP p<=4:=by
 unfold cP;rw [if_pos h];split<;>(try split)<;>(try split)<;>omega
theorem aBe {p} (h:cC p=true) (A:cP p=1):p<128:=by
 unfold cP at A;rw [if_pos h] at A;split at A
 .assumption
 .split at A<;>(try split at A)<;>omega
theorem aBa {p} (h:cC p=true) (A:cP p=2):¬ p<128/\p<2048:=by
 unfold cP at A;rw [if_pos h] at A;split at A
 .omega
 .split at A<;>(try split at A)<;>omega
theorem tX {p} (h:cC p=true) (A:cP p=3):¬ p<2048/\p<65536:=by
 unfold cP at A;rw [if_pos h] at A;split at A
 .omega
 .split at A<;>(try split at A)<;>omega
theorem yO {p} (h:cC p=true) (A:cP p=4):¬ p<65536:=by
 unfold cP at A;rw [if_pos h] at A;split at A
 .omega
 .split at A<;>(try split at A)<;>omega
theorem wJ {B:Nat} {w D:World} {G} {E:List Int} {x:Int} (F:B<=w.heap.size) (n) (h:D.ownsRow B 5 1 G n ([.int .u8 x]++E.map (Value.int .u8))) (J:n=E.length+1) (A:(w.alloc (.cells #[.int .u8 x] 5)).grownBy D (Value.slice (some ⟨w.heap.size,0,none⟩) 1 1).ownBlock) :
  OwB B D G (x::E)/\Below B w D:=by
 subst J;exact ⟨by simpa [Ow] using h,((Below.refl B w).alloc F _).grown A (by simp;omega) (fun k H=>by cases H;exact F)⟩
theorem oQ (p:Int) (n:Nat) (f:Int) (w) (h0:0<=p) (h1:p<=1114111) (hn:cP p=n) (d6:2<=n) (d5:n<=4) (hf:f=if n=2 then 192 else if n=3 then 224 else 240) (hx:0<=f+(st (n - 1) p).1/\f+(st (n - 1) p).1<256) :
  Calls prog 124 #[.int .i64 p] w fun e w'=>∃ v',e=.returned v'/\OwB w.heap.size w' v' ((f+(st (n - 1) p).1)::(st (n - 1) p).2)/\Below w.heap.size w w':=by
 obtain ⟨i0,hi,Z,a3,a0⟩:=info_parts mA;have c6:((n:Int)==1)=false:=(by simp;omega);have HN:Hid (cP p=n):=hn;clear hn
 go_enter func124,ntmps124
 go_wp2_with (go_at_call 122;refine (jZ _ _).mono ?_;rintro e w' ⟨rfl,rfl⟩;rw [HN.out])
 go_loopw [0,4,5] (fun x t i wr=>∃ k:Nat,k+1<=n/\i=.int .i64 ((k:Int)+1)/\x=.int .i64 (st k p).1/\OwB w.heap.size wr t (st k p).2/\(k=0->t=.slice none 0 0)/\Below w.heap.size w wr)
  (fun _ _ i _=>n - (intOf i).toNat)
 case atStart=>exact ⟨0,by omega,rfl,rfl,ownsRow_nil _ _ _ _,fun _=>rfl,Below.refl _ _⟩
 case round=>
  obtain ⟨k,hk,rfl,rfl,E,O,G⟩:=hrel;have a1:=aNc k p h0 h1;have Y:=aMB k p
  by_cases d1:k+1<n
  .have HS:Hid (st (k+1) p=((st k p).1 / 64,(128+(st k p).1%64)::(st k p).2)):=rfl;have F:=ownsRow_lit (base:=w.heap.size) (e:=5) (size:=1) wr #[.int .u8 (128+(st k p).1%64)] 1 G.size (by unfold maxLen;omega) rfl;generalize (st k p).1=x at a1 HS F;generalize (st k p).2=ts at Y E HS;obtain ⟨c1,b8⟩:=a1;have hm:(128+x%64)%256=128+x%64:=by omega
   by_cases a8:k=0
   .have c2:ts=[]:=eq_nil_of_length_eq_zero (by omega);subst c2;rw [O a8];clear O Y
    go_wp2_with (at_builtin;refine wpList_append_own_none rfl _ _ 22 rfl w.heap.size 5 i0 1 underlying22 hi _ _ _ rfl F rfl ?_)
    go_roundw
    case rel=>exact ⟨1,by omega,rfl,by subst a8;rw [HS.out],by subst a8;rw [HS.out];exact F,fun h=>by omega,G.alloc G.size _⟩
    case measure=>simp [intOf];omega
   .have a5:∃ g H,∃ t',t'=Value.slice (some ⟨g,0,none⟩) ts.length H/\t'=u4:=by
     rcases E.2 with ⟨_,h⟩ | ⟨g,H,b7,h,_⟩
     .omega
     .exact ⟨g,H,_,rfl,h.symm⟩
    obtain ⟨g,H,t',M,N⟩:=a5;rw [<- N] at E;rw [<- N,M];rw [M] at E;clear N M O;have J:=ownsRow.cells (ownsRow.alloc E (.cells #[.int .u8 (128+x%64)] 5)) (g:=g) rfl
    go_wp2_with (at_builtin;refine wpList_append_own _ rfl _ _ 22 rfl w.heap.size 5 i0 (.int .u8 0) 1 1 underlying22 hi Z a3 a0 rfl (by decide) _ _ _ rfl F ⟨g,0,none⟩ ts.length H (ts.map (Value.int .u8)) rfl (by simp) J (ints_oneCell _ _) (by unfold maxLen;omega) (by omega) (by have:=G.size;simp;omega) ?_;intro v' w1 A D _)
    have R:=wJ G.size _ A (by omega) D;clear A D E J F;go_wp2
    go_roundw
    case rel=>exact ⟨k+1,by omega,by go_num,by rw [HS.out],by rw [HS.out];exact R.1,fun h=>by omega,G.trans R.2⟩
    case measure=>simp [intOf];omega
  .have a2:k=n - 1:=(by omega);rw [<- a2] at hx;generalize b5:(st k p).1=x at a1 hx;generalize b2:(st k p).2=ts at Y E;have a6:Hid ((st (n - 1) p).1=x):=(by unfold Hid;rw [<- a2];exact b5);have a7:Hid ((st (n - 1) p).2=ts):=by unfold Hid;rw [<- a2];exact b2
   have a5:∃ g H,∃ t',t'=Value.slice (some ⟨g,0,none⟩) ts.length H/\t'=u4:=by
    rcases E.2 with ⟨_,h⟩ | ⟨g,H,b7,h,_⟩
    .omega
    .exact ⟨g,H,_,rfl,h.symm⟩
   obtain ⟨g,H,t',M,N⟩:=a5;rw [<- N] at E;rw [<- N,M];rw [M] at E;have J:=fun X=>ownsRow.cells (ownsRow.alloc E (.cells #[.int .u8 X] 5)) (g:=g) rfl;have F:=fun X=>ownsRow_lit (base:=w.heap.size) (e:=5) (size:=1) wr #[.int .u8 X] 1 G.size (by unfold maxLen;omega) rfl;clear N M O b5 b2 a2;obtain ⟨c1,b8⟩:=a1;obtain ⟨d2,d3⟩:=hx
   by_cases h3:n=3
   .have S:f=224:=(by rw [hf,if_neg (by omega),if_pos h3]);have t3:((n:Int)==3)=true:=(by simp;omega);have t4:((n:Int)==4)=false:=(by simp;omega);subst S;clear h3 hf;have hm:(224+x)%256=224+x:=by omega
    go_wp2_with (at_builtin;refine wpList_append_own _ rfl _ _ 22 rfl w.heap.size 5 i0 (.int .u8 0) 1 1 underlying22 hi Z a3 a0 rfl (by decide) _ _ _ rfl (F (224+x)) ⟨g,0,none⟩ ts.length H (ts.map (Value.int .u8)) rfl (by simp) (J (224+x)) (ints_oneCell _ _) (by unfold maxLen;omega) (by omega) (by have:=G.size;simp;omega) ?_;intro v' w1 A D _)
    have R:=wJ G.size _ A (by omega) D;clear A D E J F;go_wp2;go_ret;exact ⟨_,rfl,by rw [a6.out,a7.out];exact R.1,G.trans R.2⟩
   .by_cases h4:n=4
    .have S:f=240:=(by rw [hf,if_neg (by omega),if_neg h3]);have t3:((n:Int)==3)=false:=(by simp;omega);have t4:((n:Int)==4)=true:=(by simp;omega);subst S;clear h3 hf h4;have hm:(240+x)%256=240+x:=by omega
     go_wp2_with (at_builtin;refine wpList_append_own _ rfl _ _ 22 rfl w.heap.size 5 i0 (.int .u8 0) 1 1 underlying22 hi Z a3 a0 rfl (by decide) _ _ _ rfl (F (240+x)) ⟨g,0,none⟩ ts.length H (ts.map (Value.int .u8)) rfl (by simp) (J (240+x)) (ints_oneCell _ _) (by unfold maxLen;omega) (by omega) (by have:=G.size;simp;omega) ?_;intro v' w1 A D _)
     have R:=wJ G.size _ A (by omega) D;clear A D E J F;go_wp2;go_ret;exact ⟨_,rfl,by rw [a6.out,a7.out];exact R.1,G.trans R.2⟩
    .have S:f=192:=(by rw [hf,if_pos (by omega)]);have t3:((n:Int)==3)=false:=(by simp;omega);have t4:((n:Int)==4)=false:=(by simp;omega);subst S;clear h3 hf h4;have hm:(192+x)%256=192+x:=by omega
     go_wp2_with (at_builtin;refine wpList_append_own _ rfl _ _ 22 rfl w.heap.size 5 i0 (.int .u8 0) 1 1 underlying22 hi Z a3 a0 rfl (by decide) _ _ _ rfl (F (192+x)) ⟨g,0,none⟩ ts.length H (ts.map (Value.int .u8)) rfl (by simp) (J (192+x)) (ints_oneCell _ _) (by unfold maxLen;omega) (by omega) (by have:=G.size;simp;omega) ?_;intro v' w1 A D _)
     have R:=wJ G.size _ A (by omega) D;clear A D E J F;go_wp2;go_ret;exact ⟨_,rfl,by rw [a6.out,a7.out];exact R.1,G.trans R.2⟩
theorem aCV (p:Int) (w) (J:0<=p) (G:p<128) (D:cP p=1) :
  Calls prog 124 #[.int .i64 p] w fun e A=>∃ E,e=.returned E/\OwB w.heap.size A E [p]/\Below w.heap.size w A:=by
 have F:Hid (cP p=1):=D;clear D;have H:p%256=p:=(by omega);have h:=ownsRow_lit (base:=w.heap.size) (e:=5) (size:=1) w #[.int .u8 p] 1 (Nat.le_refl _) (by unfold maxLen;omega) rfl
 go_enter func124,ntmps124
 go_wp2_with (go_at_call 122;refine (jZ _ _).mono ?_;rintro e A ⟨rfl,rfl⟩;rw [F.out])
 go_ret;exact ⟨_,rfl,h,(Below.refl _ _).alloc (Nat.le_refl _) _⟩
theorem aCR (p w) (h:cC p=true) :
  Calls prog 124 #[.int .i64 p] w fun e N=>∃ J,e=.returned J/\OwB w.heap.size N J (enc p)/\Below w.heap.size w N:=by
 obtain ⟨⟨D,E⟩,S⟩:=aGP h;have O:=aC8 p h
 by_cases G:cP p=1
 .have A:=aBe h G;rw [yQ p A];exact aCV p w D A G
 .by_cases F:cP p=2
  .have A:=aBa h F;rw [<- st2 p A.1 A.2];exact oQ p 2 192 w D E F (by omega) (by omega) rfl (by simp only [st];omega)
  .by_cases M:cP p=3
   .have A:=tX h M;rw [<- st3 p A.1 A.2];exact oQ p 3 224 w D E M (by omega) (by omega) rfl (by simp only [st];omega)
   .have H:cP p=4:=(by omega);have A:=yO h H;rw [<- st4 p A];exact oQ p 4 240 w D E H (by omega) (by omega) rfl (by simp only [st];omega)
end Go.Proofs.YtckcaefnokeodaaGreatDoor
