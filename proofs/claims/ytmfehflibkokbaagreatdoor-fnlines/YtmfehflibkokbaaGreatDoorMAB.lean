import Derived.Orders
import Derived.Deep.RegionWith
import Derived.ArgAppend
import Derived.Handy
import Derived.Test.YtmfehflibkokbaaGreatDoorMAA
set_option maxHeartbeats 16000000
set_option maxRecDepth 100000
namespace Go.Proofs.YtmfehflibkokbaaGreatDoor
open Go.Proofs.Tryz
section
variable {P:Program} {ops:Array Oper} {Q:Exit->Act->World->Prop} {md:Region.Mode} {I:World->Prop} {ex:Nat->Bool}
def fJ (P:Program) (md:Region.Mode) (ops:Array Oper) (Q:Exit->Act->World->Prop) (I:World->Prop) (ex:Nat->Bool):Nat->Array Bool->Act->World->Prop
 | 0,listed,a,w=>Region.ready md ops listed=[]/\Q .normal a w
 | fuel+1,listed,a,w=>(Region.ready md ops listed=[]->Q .normal a w)/\
   ∀ i∈Region.ready md ops listed,wpOp P ops Q i (fun a' w'=>(ex i=true\/I w')/\fJ P md ops Q I ex fuel (listed.setIfInBounds i true) a' w') a w
theorem wY:∀ (fuel:Nat) (y:Array Bool) (a:Act) (w:World),fJ P md ops Q I ex fuel y a w->wpAny P md ops Q fuel y a w
 | 0,_,_,_,h=>h
 | fuel+1,_,_,_,h=>⟨h.1,fun i A=>wpOp_mono (fun D w' E=>wY fuel _ D w' E.2) (h.2 i A)⟩
theorem aZ (I:World->Prop) (ex:Nat->Bool) {y:Nat} {a:Act} {w:World} (A:P.follows .mixedOrders=true) (h:fJ P .any ops Q I ex ops.size (Array.replicate ops.size false) a w.drew):(Code.region y ops true).wp P Q a w:=
 wp_region_any A (wY _ _ _ _ h)
theorem aEJ {j:Nat} {A:Oper} {K:Act->World->Prop} {a:Act} {w:World} (J:ops[j]?=some A) (h:wpOp P ops Q j K a w) :
  wpOp P ops Q j (fun E w'=>K E w'/\∃ G u,E=({ a with defers:=G } : Act).put A.dst u) a w:=by
 unfold wpOp at *;simp only [J] at *
 split
 ·rename_i hw
  simp only [hw,if_true] at h;rcases h with h | h
  case inr=>exact .inr h
  refine .inl ?_;unfold Oper.wp at *;generalize (execOp a.eval A).run P w=r at *;cases r with
  | halt x w'=>cases x<;>simp only [Oper.upon] at h ⊢ <;> exact h
  | ok n w'=>
    cases n<;>simp only [Oper.upon] at h ⊢
    case value u=>exact ⟨h,a.defers,u,rfl⟩
    case skip=>exact ⟨h,a.defers,undef,rfl⟩
    case defer d=>exact ⟨h,d::a.defers,undef,rfl⟩
    case enter f args=>
     refine Calls.mono h fun e D y=>?_;cases e with
     | returned u=>exact ⟨y,a.defers,u,rfl⟩
     | panicked c=>exact y
     | outgrown=>exact y
    case row row args=>exact Rows.mono h fun u D y=>⟨y,a.defers,u,rfl⟩
 ·rename_i hw
  simp only [hw] at h;exact ⟨h,a.defers,undef,rfl⟩
def uY (P:Program) (ops:Array Oper) (I:World->Prop) (o:Oper) (v:Value) (a:Act):Prop:=
 Region.wanted o (yielded ops a.tmps)=true/\∀ w,I w->(execOp a.eval o).run P w=.ok (.value v) w
def aGk (md:Region.Mode) (ops:Array Oper) (ex:Nat->Bool) (i:Nat):Bool:=
 (List.range ops.size).all fun j=>!ex j||match ops[j]? with
  | some o=>o.after.any fun e=>Region.binds md e&&e.on==i
  | none=>true
theorem aGv {i j:Nat} {E:Oper} (h:aGk md ops ex i=true) (G:ops[j]?=some E) (A:∀ e∈E.after,Region.binds md e=true->e.on≠i):ex j=false:=by
 simp only [aGk,List.all_eq_true,List.mem_range] at h;have y:=h j (Array.getElem?_eq_some_iff.1 G).1;simp only [G,Bool.or_eq_true,Bool.not_eq_true'] at y;rcases y with y | y
 ·exact y
 ·obtain ⟨e,J,D⟩:=Array.any_eq_true'.1 y;simp only [Bool.and_eq_true,beq_iff_eq] at D;exact absurd D.2 (A e J D.1)
def uZ (o:Oper) (v:Value):Oper:={ dst:=o.dst,op:=.move (.const v),type:=o.type,pos:=o.pos,after:=#[],guard:=none }
theorem aAj (o:Oper) (v:Value) (a:Act):Yields P ops (uZ o v) v a:=.inl ⟨rfl,fun _=>rfl⟩
theorem aAI {o y:Oper} {v:Value} (h:o.apart ops y=true):(uZ o v).apart ops y=true:=by
 have A:(uZ o v).looksAt ops=[]:=(by simp [Oper.looksAt,uZ,Op.operands]);unfold Oper.apart at *;rw [Bool.and_eq_true] at h;rw [A,Bool.and_eq_true];refine ⟨h.1,?_⟩;cases y.dst<;>simp
theorem aEf {i:Nat} {G:Oper} {v:Value} (hi:ops[i]?=some G) (U:Region.noSelect ops=true) (b6:aGk md ops ex i=true)
  (hQ:∀ c a w,Q (.panic c) (a.put G.dst v) w->Q (.panic c) a w) :
  ∀ (fuel:Nat) (y:Array Bool) (a:Act) (w:World),
   (∀ j J,ops[j]?=some J->j≠i->y.getD j true=false->(∀ e∈J.after,Region.binds md e=true->e.on≠i)->G.apart ops J=true)->
   i∈Region.ready md ops y->uY P ops I G v a->I w->
   fJ P md ops Q I ex fuel (y.setIfInBounds i true) (a.put G.dst v) w->fJ P md ops Q I ex (fuel+1) y a w:=by
 have S:∀ (fuel:Nat) (y:Array Bool) (a:Act) (w:World),uY P ops I G v a->I w->fJ P md ops Q I ex fuel (y.setIfInBounds i true) (a.put G.dst v) w->
   wpOp P ops Q i (fun a' w'=>(ex i=true\/I w')/\fJ P md ops Q I ex fuel (y.setIfInBounds i true) a' w') a w:=by
  intro fuel y a w O hw H;unfold wpOp;simp only [hi,O.1,if_true];refine .inl ?_;unfold Oper.wp;rw [O.2 w hw];exact ⟨.inr hw,H⟩
 intro fuel
 induction fuel with
 | zero=>
   intro y a w _ Z O hw H;refine ⟨fun h=>(by rw [h] at Z;cases Z),fun j hj=>?_⟩
   by_cases A:j=i
   ·subst A;exact S 0 y a w O hw H
   ·have:=ready_mono hj A;rw [H.1] at this;cases this
 | succ fuel ih=>
   intro y a w D Z O hw H;refine ⟨fun h=>(by rw [h] at Z;cases Z),fun j hj=>?_⟩
   by_cases A:j=i
   ·subst A;exact S _ y a w O hw H
   ·have h1:=H.2 j (ready_mono hj A);obtain ⟨M,J,E,a6⟩:=mem_ready.1 hj
    have N:∀ e∈J.after,Region.binds md e=true->e.on≠i:=fun e he hb b7=>by
     have X:=a6 e he hb;have h0:=(mem_ready.1 Z).1;rw [b7] at X;rcases Nat.lt_or_ge i y.size with h' | h'
     ·simp [h'] at h0 X;rw [h0] at X;cases X
     ·simp [Array.getElem?_eq_none h'] at X
    have a7:=D j J E A M N;have a9:=aGv b6 E N;have X:=aEJ E (wpOp_put E (aAI (v:=v) a7) (fun cs b=>by simp [uZ]) (fun cs b=>Region.noSelect_spec U j J cs b E) hQ (aAj G v a) h1);obtain ⟨_,_,h3⟩:=Oper.apart_spec a7;refine wpOp_mono (fun a' w' h4=>?_) X;obtain ⟨⟨_,hI,Y⟩,ds,u,rfl⟩:=h4;have a5:I w':=hI.resolve_left (by rw [a9];simp);refine ⟨.inr a5,ih (y.setIfInBounds j true) _ w' ?_ (ready_mono Z (Ne.symm A)) ?_ a5 ?_⟩
    ·intro k ok hk b5 b0 b3;refine D k ok hk b5 ?_ b3
     by_cases a8:j=k
     ·subst a8;exact M
     ·rw [getD_set_ne true a8] at b0;exact b0
    ·refine ⟨?_,?_⟩
     ·rw [wanted_put G _ J.dst u h3];exact O.1
     ·rw [execOp_put G (fun cs b=>Region.noSelect_spec U i G cs b hi) _ J.dst u h3];exact O.2
    ·rw [Array.setIfInBounds_comm _ _ A];exact Y
theorem fY {i:Nat} {A:Oper} (v:Value) {fuel:Nat} {y:Array Bool} {a:Act} {w:World} (E:ops[i]?=some A) (G:Region.noSelect ops=true) (S:Region.free md ops y i=true)
  (M:(Region.ready md ops y).contains i=true) (D:aGk md ops ex i=true) (N:∀ c a w,Q (.panic c) (a.put A.dst v) w->Q (.panic c) a w) (O:I w) (J:uY P ops I A v a)
  (h:fJ P md ops Q I ex fuel (y.setIfInBounds i true) (a.put A.dst v) w):fJ P md ops Q I ex (fuel+1) y a w:=
 aEf E G D N fuel y a w (Region.free_spec E S) (by simpa using M) J O h
theorem bK {i:Nat} {A:Oper} (v:Value) {fuel:Nat} {y:Array Bool} {a:Act} {w:World} (S:ops[i]?=some A) (M:I w) (G:uY P ops I A v a) (h:fJ P md ops Q I ex fuel (y.setIfInBounds i true) (a.put A.dst v) w) (E:Region.noSelect ops=true:=by kernel_rfl) (O:Region.free md ops y i=true:=by kernel_rfl)
  (J:(Region.ready md ops y).contains i=true:=by kernel_rfl) (D:aGk md ops ex i=true:=by kernel_rfl) (N:∀ c a w,Q (.panic c) (a.put A.dst v) w->Q (.panic c) a w:=by exact fun _ _ _ h=>h):fJ P md ops Q I ex (fuel+1) y a w:=
 fY v S E O J D N M G h
theorem aD {i:Nat} {fuel:Nat} {y:Array Bool} {a:Act} {w:World} (E:Region.ready md ops y=[i])
  (h:wpOp P ops Q i (fun G w'=>(ex i=true\/I w')/\fJ P md ops Q I ex fuel (y.setIfInBounds i true) G w') a w):fJ P md ops Q I ex (fuel+1) y a w:=
 ⟨fun D=>(by rw [E] at D;cases D),fun j A=>by rw [E] at A;simp at A;subst A;exact h⟩
theorem bL {y:Array Bool} {a:Act} {w:World} (A:Region.ready md ops y=[]) (h:Q .normal a w):∀ fuel,fJ P md ops Q I ex fuel y a w
 | 0=>⟨A,h⟩
 | _+1=>⟨fun _=>h,by rw [A];simp⟩
theorem aF {i:Nat} {o:Oper} {K:Act->World->Prop} {a:Act} {w w':World} {v:Value} (D:ops[i]?=some o) (A:o.guard=none) (y:(execOp a.eval o).run P w=.ok (.value v) w') (h:K (a.put o.dst v) w'):wpOp P ops Q i K a w:=by
 unfold wpOp;have E:Region.wanted o (yielded ops a.tmps)=true:=(by simp [Region.wanted,A]);simp only [D,E,if_true];refine .inl ?_;unfold Oper.wp;rw [y];exact h
theorem eA {i:Nat} {o:Oper} {K:Act->World->Prop} {a:Act} {w w':World} (D:ops[i]?=some o) (A:o.guard=none) (y:(execOp a.eval o).run P w=.ok .skip w') (h:K (a.put o.dst undef) w'):wpOp P ops Q i K a w:=by
 unfold wpOp;have E:Region.wanted o (yielded ops a.tmps)=true:=(by simp [Region.wanted,A]);simp only [D,E,if_true];refine .inl ?_;unfold Oper.wp;rw [y];exact h
theorem dY {i:Nat} {o:Oper} {K:Act->World->Prop} {a:Act} {w A:World} {f:FuncId} {args:Array Value} {R:Ending->World->Prop} (N:ops[i]?=some o) (M:o.guard=none) (y:(execOp a.eval o).run P w=.ok (.enter f args) A)
  (D:Calls P f args A R) (h:∀ e w',R e w'->∃ v,e=.returned v/\K (a.put o.dst v) w'):wpOp P ops Q i K a w:=by
 unfold wpOp;have J:Region.wanted o (yielded ops a.tmps)=true:=(by simp [Region.wanted,M]);simp only [N,J,if_true];refine .inl ?_;unfold Oper.wp;rw [y];refine Calls.mono D fun e w' E=>?_;obtain ⟨v,rfl,G⟩:=h e w' E;exact G
theorem bB {o:Oper} {v:Value} {a:Act} (y:o.guard=none) (h:∀ w,I w->(execOp a.eval o).run P w=.ok (.value v) w):uY P ops I o v a:=
 ⟨by simp [Region.wanted,y],h⟩
end
end Go.Proofs.YtmfehflibkokbaaGreatDoor
namespace Go.Proofs.YtmfehflibkokbaaGreatDoor
open Go.Proofs.Tryz
open Go.RowKit
inductive HK where
 | bs | is | cm | nd | tr | ts (n:Nat)
def HK.ty:HK->TypeId
 | .bs=>5
 | .is=>3
 | .cm=>128
 | .nd=>35
 | .tr=>26
 | .ts _=>26
def HK.sl:HK->TypeId
 | .bs=>22
 | .is=>33
 | .cm=>24
 | .nd=>23
 | .tr=>0
 | .ts _=>0
def HK.ok:HK->Bool
 | .tr=>false
 | .ts _=>false
 | _=>true
def HK.sz:HK->Nat
 | .bs=>1
 | .is=>1
 | .cm=>2
 | .nd=>8
 | .tr=>2
 | .ts _=>2
theorem HK.pos (k:HK):0<k.sz:=by cases k<;>exact Nat.succ_pos _
abbrev Gm:=Nat->Option (HK × Nat × Nat)
def Gle (Γ Γ':Gm):Prop:=∀ b k m s,Γ b=some (k,m,s)->∃ s',s'<=s/\Γ' b=some (k,m,s')
theorem Gle.refl (Γ:Gm):Gle Γ Γ:=fun _ _ _ s h=>⟨s,Nat.le_refl _,h⟩
theorem Gle.trans {A B C:Gm} (h:Gle A B) (D:Gle B C):Gle A C:=fun b k m s M=>by
 obtain ⟨E,O,J⟩:=h b k m s M;obtain ⟨G,N,y⟩:=D b k m E J;exact ⟨G,by omega,y⟩
theorem Gle.full {A B:Gm} (h:Gle A B) {b:Nat} {k:HK} {m:Nat} (D:A b=some (k,m,0)):B b=some (k,m,0):=by
 obtain ⟨s,y,E⟩:=h b k m 0 D;rw [E,Nat.le_zero.1 y]
def HV (Γ:Gm) (k:HK) (v:Value) (n:Nat):Prop:=(v=.slice none 0 0/\n=0)\/∃ b m s,v=.slice (some ⟨b,0,none⟩) n m/\Γ b=some (k,m,s)/\n+s<=m/\m<=maxLen
def HW (Γ:Gm) (k:HK) (L:Nat) (v:Value):Prop:=∃ n,n<=L/\HV Γ k v n
theorem HV.mono {Γ Γ':Gm} {k:HK} {v:Value} {n:Nat} (h:HV Γ k v n) (g:Gle Γ Γ'):HV Γ' k v n:=by
 rcases h with h | ⟨b,m,s,e,D,G,A⟩
 ·exact .inl h
 ·obtain ⟨s',E,y⟩:=g b k m s D;exact .inr ⟨b,m,s',e,y,by omega,A⟩
theorem HW.mono {Γ Γ':Gm} {k:HK} {L L':Nat} {v:Value} (h:HW Γ k L v) (g:Gle Γ Γ') (D:L<=L'):HW Γ' k L' v:=by
 obtain ⟨n,A,y⟩:=h;exact ⟨n,by omega,y.mono g⟩
theorem HW.nil (Γ:Gm) (k:HK) (L:Nat):HW Γ k L (.slice none 0 0):=⟨0,Nat.zero_le _,.inl ⟨rfl,rfl⟩⟩
theorem HV.sl {Γ:Gm} {k:HK} {v:Value} {n:Nat} (h:HV Γ k v n):Sl v n:=by
 rcases h with ⟨rfl,rfl⟩ | ⟨b,m,s,e,_,A,y⟩
 ·exact ⟨none,0,rfl,Nat.le_refl _,by unfold maxLen;omega⟩
 ·exact ⟨_,m,e,by omega,y⟩
def IsN (u:Value):Prop:=∃ z:Int,u=.int .i64 z/\-9223372036854775808<=z/\z<=9223372036854775807
def aIL (u:Value):Prop:=∃ b,u=.bool b
def Hc (L:Nat) (Γ:Gm):HK->Nat->Value->Prop
 | .bs,_,u=>∃ z:Int,u=.int .u8 z/\0<=z/\z<=255
 | .is,_,u=>IsN u
 | .cm,0,u=>aIL u
 | .cm,_,u=>HW Γ .bs L u
 | .nd,0,u=>IsN u
 | .nd,1,u=>HW Γ .cm L u
 | .nd,2,u=>aIL u
 | .nd,3,u=>HW Γ .is L u
 | .nd,4,u=>HW Γ .bs L u
 | .nd,5,u=>HW Γ .is L u
 | .nd,6,u=>IsN u
 | .nd,_,u=>HW Γ .cm L u
 | .tr,0,u=>HW Γ .nd (L*50) u
 | .tr,_,u=>HW Γ .cm L u
 | .ts n,0,u=>HV Γ .nd u n
 | .ts _,_,u=>HW Γ .cm L u
theorem Hc.mono {L L':Nat} {Γ Γ':Gm} (g:Gle Γ Γ') (y:L<=L'):∀ {k:HK} {j:Nat} {u:Value},Hc L Γ k j u->Hc L' Γ' k j u
 | .bs,_,_,h=>h
 | .is,_,_,h=>h
 | .cm,0,_,h=>h
 | .cm,_+1,_,h=>HW.mono h g y
 | .nd,0,_,h=>h
 | .nd,1,_,h=>HW.mono h g y
 | .nd,2,_,h=>h
 | .nd,3,_,h=>HW.mono h g y
 | .nd,4,_,h=>HW.mono h g y
 | .nd,5,_,h=>HW.mono h g y
 | .nd,6,_,h=>h
 | .nd,_+7,_,h=>HW.mono h g y
 | .tr,0,_,h=>HW.mono h g (Nat.mul_le_mul_right _ y)
 | .tr,_+1,_,h=>HW.mono h g y
 | .ts _,0,_,h=>HV.mono h g
 | .ts _,_+1,_,h=>HW.mono h g y
theorem HW.one {Γ:Gm} {k:HK} {L:Nat} {v:Value} (h:HW Γ k L v):v.oneCell'=true:=by
 obtain ⟨n,_,h⟩:=h;rcases h with ⟨rfl,_⟩ | ⟨b,m,s,rfl,_⟩<;>rfl
theorem Hc.one {L:Nat} {Γ:Gm} : ∀ {k:HK} {j:Nat} {u:Value},Hc L Γ k j u->u.oneCell'=true
 | .bs,_,_,⟨z,e,_⟩=>by rw [e];rfl
 | .is,_,_,⟨z,e,_⟩=>by rw [e];rfl
 | .cm,0,_,⟨z,e⟩=>by rw [e];rfl
 | .cm,_+1,_,h=>HW.one h
 | .nd,0,_,⟨z,e,_⟩=>by rw [e];rfl
 | .nd,1,_,h=>HW.one h
 | .nd,2,_,⟨z,e⟩=>by rw [e];rfl
 | .nd,3,_,h=>HW.one h
 | .nd,4,_,h=>HW.one h
 | .nd,5,_,h=>HW.one h
 | .nd,6,_,⟨z,e,_⟩=>by rw [e];rfl
 | .nd,_+7,_,h=>HW.one h
 | .tr,0,_,h=>HW.one h
 | .tr,_+1,_,h=>HW.one h
 | .ts n,0,_,h=>HW.one ⟨n,Nat.le_refl _,h⟩
 | .ts _,_+1,_,h=>HW.one h
def Bk (L:Nat) (Γ:Gm) (w:World) (b:Nat) (k:HK) (m s:Nat):Prop:=
 ∃ arr mk,w.heap[b]?=some (.cells arr k.ty mk)/\arr.size=m*k.sz/\s<=m/\(mk=(0,0)\/mk=(arr.size,arr.size+1))/\∀ j,j<(m - s)*k.sz->∃ u,arr[j]?=some u/\Hc L Γ k (j%k.sz) u
def WT (L H:Nat) (Γ:Gm) (w:World):Prop:=∀ b k m s,Γ b=some (k,m,s)->H<=b/\Bk L Γ w b k m s
section
variable {L H:Nat} {Γ:Gm} {w w':World}
theorem WT.lt (h:WT L H Γ w) {b:Nat} {k:HK} {m s:Nat} (E:Γ b=some (k,m,s)):H<=b/\b<w.heap.size:=by
 obtain ⟨y,A,G,D,_⟩:=h b k m s E;exact ⟨y,(Array.getElem?_eq_some_iff.1 D).1⟩
theorem WT.kept (h:WT L H Γ w) (M:∀ b,H<=b->b<w.heap.size->w'.heap[b]?=w.heap[b]?):WT L H Γ w':=fun b k m s D=>by
 have E:=h.lt D;obtain ⟨A,y,J,N,G⟩:=h b k m s D;exact ⟨A,y,J,by rw [M b A E.2];exact N,G⟩
theorem WT.grown {r:Option Nat} (h:WT L H Γ w) (g:w.grownBy w' r) (y:∀ x,r=some x->x<H):WT L H Γ w':=
 h.kept fun b D A=>g.block b A (fun e=>by have:=y b e.symm;omega)
theorem WT.wider {L':Nat} (h:WT L H Γ w) (E:L<=L'):WT L' H Γ w:=fun b k m s U=>by
 obtain ⟨M,y,N,S,J,D,G,O⟩:=h b k m s U;refine ⟨M,y,N,S,J,D,G,fun j X=>?_⟩;obtain ⟨u,e,A⟩:=O j X;exact ⟨u,e,A.mono (Gle.refl _) E⟩
theorem WT.bare (h:WT L H Γ w) {b:Nat} {k:HK} {m s:Nat} (E:Γ b=some (k,m,s)) {j:Nat} (S:j<m*k.sz):(w.cell? ⟨b,j,none⟩).isSome=true/\w.frozen? ⟨b,j,none⟩=false:=by
 obtain ⟨M,D,N,y,J,G,A,O⟩:=h b k m s E;refine ⟨?_,?_⟩
 ·rw [cell_of_row w b j _ _ _ y,Array.getElem?_eq_getElem (by omega)];rfl
 ·simp only [World.frozen?,y];rcases A with rfl | rfl
  ·simp
  ·simp;omega
theorem WT.cell (h:WT L H Γ w) {b:Nat} {k:HK} {m s:Nat} (A:Γ b=some (k,m,s)) {j:Nat} (D:j<(m - s)*k.sz):∃ u,w.cell? ⟨b,j,none⟩=some u/\Hc L Γ k (j%k.sz) u/\w.frozen? ⟨b,j,none⟩=false:=by
 have y:=(h.bare A (j:=j) (Nat.lt_of_lt_of_le D (Nat.mul_le_mul_right _ (Nat.sub_le _ _)))).2;obtain ⟨U,G,X,M,S,N,O,J⟩:=h b k m s A;obtain ⟨u,e,E⟩:=J j D;exact ⟨u,by rw [cell_of_row w b j _ _ _ M];exact e,E,y⟩
def upd (Γ:Gm) (b:Nat) (x:HK × Nat × Nat):Gm:=fun c=>if c=b then some x else Γ c
theorem cQ (h:WT L H Γ w) (x:HK × Nat × Nat):Gle Γ (upd Γ w.heap.size x):=fun b k m s y=>by
 refine ⟨s,Nat.le_refl _,?_⟩;unfold upd;rw [if_neg]
 ·exact y
 ·have:=(h.lt y).2;omega
theorem WT.newS (h:WT L H Γ w) (hH:H<=w.heap.size) (g:w.grownBy w' none) {c:Nat} (hc:w.heap.size<=c) (k:HK) (m s:Nat) (S:∀ Γ',Gle Γ Γ'->Bk L Γ' w' c k m s) (N:Γ c=none):WT L H (upd Γ c (k,m,s)) w'/\Gle Γ (upd Γ c (k,m,s)):=by
 have A:Gle Γ (upd Γ c (k,m,s)):=fun b k' J s' y=>⟨s',Nat.le_refl _,by
  unfold upd;rw [if_neg]
  ·exact y
  ·intro e;rw [e,N] at y;cases y⟩
 refine ⟨fun b k' J s' y=>?_,A⟩
 by_cases e:b=c
 ·subst e;rw [show upd Γ b (k,m,s) b=some (k,m,s) by unfold upd;rw [if_pos rfl]] at y;cases y;exact ⟨by omega,S _ A⟩
 ·have D:Γ b=some (k',J,s'):=(by unfold upd at y;rwa [if_neg e] at y);have hl:=h.lt D;obtain ⟨Y,E,G,h2,h3,X,M,Z⟩:=h b k' J s' D;refine ⟨Y,E,G,by rw [g.block b hl.2 (by simp)];exact h2,h3,X,M,fun j U=>?_⟩;obtain ⟨u,O,hu⟩:=Z j U;exact ⟨u,O,hu.mono A (Nat.le_refl _)⟩
theorem WT.gone (h:WT L H Γ w) {c:Nat} (y:w.heap.size<=c):Γ c=none:=by
 cases e:Γ c with
 | none=>rfl
 | some x=>
   obtain ⟨k,m,s⟩:=x;have:=(h.lt e).2;omega
theorem WT.new (h:WT L H Γ w) (M:H<=w.heap.size) (k:HK) (m:Nat) (y:Array Value) (A:Nat × Nat) (D:y.size=m*k.sz) (N:A=(0,0)\/A=(y.size,y.size+1)) (G:∀ j,j<y.size->∃ u,y[j]?=some u/\Hc L Γ k (j%k.sz) u) :
  WT L H (upd Γ w.heap.size (k,m,0)) (w.alloc (.cells y k.ty A)):=
 (h.newS M gWA (Nat.le_refl _) k m 0 (fun Γ' hle=>⟨y,A,heap_alloc_new w _,D,Nat.zero_le _,N,fun j O=>by
  obtain ⟨u,J,E⟩:=G j (by rw [D];exact O);exact ⟨u,J,E.mono hle (Nat.le_refl _)⟩⟩) (h.gone (Nat.le_refl _))).1
theorem WT.set (h:WT L H Γ w) {b:Nat} {k:HK} {m s:Nat} (N:Γ b=some (k,m,s)) (j:Nat) {u:Value} (O:Hc L Γ k (j%k.sz) u):WT L H Γ (w.setCell ⟨b,j,none⟩ u):=fun D k' X s' A=>by
 by_cases e:D=b
 ·subst e;rw [N] at A;cases A;obtain ⟨J,y,M,E,G,S,U,Y⟩:=h D k m s N;have Z:=Nat.mul_le_mul_right k.sz (Nat.sub_le m s);refine ⟨J,y.setIfInBounds j u,M,?_,by simpa using G,S,by simpa using U,fun i hi=>?_⟩
  ·rw [setCell_eq_setRow w D j y k.ty _ _ E];exact setRow_heap w D y _ k.ty _ E
  ·rw [Array.getElem?_setIfInBounds]
   by_cases e:j=i
   ·subst e;exact ⟨u,by rw [if_pos rfl,if_pos (by omega)],O⟩
   ·rw [if_neg e];exact Y i hi
 ·obtain ⟨J,y,M,E,G⟩:=h D k' X s' A;exact ⟨J,y,M,by rw [heap_setCell_other w ⟨b,j,none⟩ D u e];exact E,G⟩
theorem WT.sets (b:Nat) {k:HK} {m s:Nat} (A:Γ b=some (k,m,s)):∀ (y:List Value) (o:Nat) (w:World),WT L H Γ w->(∀ i u,y[i]?=some u->Hc L Γ k ((o+i)%k.sz) u)->WT L H Γ (w.setCells b o y)
 | [],_,w,h,_=>h
 | u::y,o,w,h,hu=>WT.sets b A y (o+1) _ (h.set A o (hu 0 u rfl)) (fun i v hv=>by rw [show o+1+i=o+(i+1) by omega];exact hu (i+1) v (by simpa using hv))
theorem WT.know (h:WT L H Γ w) {b:Nat} {k:HK} {m s s':Nat} (hb:Γ b=some (k,m,s)) (hs:s'<=s) (hc:∀ j,(m - s)*k.sz<=j->j<(m - s')*k.sz->∃ u,w.cell? ⟨b,j,none⟩=some u/\Hc L Γ k (j%k.sz) u):WT L H (upd Γ b (k,m,s')) w/\Gle Γ (upd Γ b (k,m,s')):=by
 have A:Gle Γ (upd Γ b (k,m,s')):=fun D k' m' N y=>by
  by_cases e:D=b
  ·subst e;rw [hb] at y;cases y;exact ⟨s',hs,by unfold upd;rw [if_pos rfl]⟩
  ·exact ⟨N,Nat.le_refl _,by unfold upd;rw [if_neg e];exact y⟩
 refine ⟨fun D k' m' N y=>?_,A⟩
 by_cases e:D=b
 ·subst e;rw [show upd Γ D (k,m,s') D=some (k,m,s') by unfold upd;rw [if_pos rfl]] at y;cases y;obtain ⟨Y,a6,mk,M,h3,h4,O,h6⟩:=h D k m s hb;refine ⟨Y,a6,mk,M,h3,by omega,O,fun j U=>?_⟩
  by_cases X:j<(m - s)*k.sz
  ·obtain ⟨u,E,G⟩:=h6 j X;exact ⟨u,E,G.mono A (Nat.le_refl _)⟩
  ·obtain ⟨u,E,G⟩:=hc j (by omega) U;rw [cell_of_row w D j _ _ _ M] at E;exact ⟨u,E,G.mono A (Nat.le_refl _)⟩
 ·have S:Γ D=some (k',m',N):=(by unfold upd at y;rwa [if_neg e] at y);obtain ⟨Y,J,Z,M,h3,h4,O,h6⟩:=h D k' m' N S;refine ⟨Y,J,Z,M,h3,h4,O,fun j U=>?_⟩;obtain ⟨u,E,G⟩:=h6 j U;exact ⟨u,E,G.mono A (Nat.le_refl _)⟩
end
theorem aJr:(prog.info? 128).map (fun i=>(i.zero,i.size,i.bytes))=some (some (.agg #[.bool false,.slice none 0 0]),2,32):=by kernel_rfl
theorem aJi:(prog.info? 35).map (fun i=>(i.zero,i.size,i.bytes))=some (some (.agg #[.int .i64 0,.slice none 0 0,.bool false,.slice none 0 0,.slice none 0 0,.slice none 0 0,.int .i64 0,.slice none 0 0]),8,144):=by kernel_rfl
theorem aFz (k:HK) (G:k.ok=true):∃ i z,prog.underlying k.sl=some (.slice k.ty)/\prog.info? k.ty=some i/\i.zero=some z/\i.size=k.sz/\i.bytes<=200/\z.cells.size=k.sz/\∀ L Γ j,j<k.sz->Hc L Γ k j (z.cells[j]!):=by
 have E:IsN (.int .i64 0):=⟨0,rfl,by omega,by omega⟩;cases k with
 | tr=>cases G
 | ts _=>cases G
 | bs=>
   obtain ⟨i,A,D,y,h⟩:=info_parts mF
   exact ⟨i,_,underlying22,A,D,y,by rw [h];omega,rfl,fun L Γ j hj=>by
    match j,hj with
    | 0,_=>exact ⟨0,rfl,by omega,by omega⟩⟩
 | is=>
   obtain ⟨i,A,D,y,h⟩:=info_parts aBg
   exact ⟨i,_,underlying33,A,D,y,by rw [h];omega,rfl,fun L Γ j hj=>by
    match j,hj with
    | 0,_=>exact E⟩
 | cm=>
   obtain ⟨i,A,D,y,h⟩:=info_parts aJr
   exact ⟨i,_,underlying24,A,D,y,by rw [h];omega,rfl,fun L Γ j hj=>by
    match j,hj with
    | 0,_=>exact ⟨false,rfl⟩
    | 1,_=>exact HW.nil _ _ _⟩
 | nd=>
   obtain ⟨i,A,D,y,h⟩:=info_parts aJi
   exact ⟨i,_,underlying23,A,D,y,by rw [h];omega,rfl,fun L Γ j hj=>by
    match j,hj with
    | 0,_=>exact E
    | 1,_=>exact HW.nil _ _ _
    | 2,_=>exact ⟨false,rfl⟩
    | 3,_=>exact HW.nil _ _ _
    | 4,_=>exact HW.nil _ _ _
    | 5,_=>exact HW.nil _ _ _
    | 6,_=>exact E
    | 7,_=>exact HW.nil _ _ _⟩
theorem WT.appK {L H:Nat} {Γ:Gm} {w:World} (h:WT L H Γ w) (hH:H<=w.heap.size) {k:HK} {v:Value} {n:Nat} (hv:HV Γ k v n) (b' o' q c:Nat) (hq:0<q) (A:List Value) (hl:A.length=q*k.sz) (c3:∀ j u,A[j]?=some u->w.cell? ⟨b',o'+j,none⟩=some u) (X:∀ j u,A[j]?=some u->Hc L Γ k (j%k.sz) u) (hb:n+q<=1000000) (hk:k.ok=true:=by rfl) :
  ∃ v' w' Γ',(Builtin.append_ #[k.sl,k.sl] k.sl #[v,.slice (some ⟨b',o',none⟩) q c]).run prog w=.ok v' w'/\HV Γ' k v' (n+q)/\Gle Γ Γ'/\WT L H Γ' w'/\Below H w w'/\∀ x,x<w.heap.size->(∀ m s,Γ x≠some (k,m,s))->w'.heap[x]?=w.heap[x]?:=by
 obtain ⟨i,z,hu,hi,hz,hs,c7,Z,d6⟩:=aFz k hk;have c6:=k.pos;have J:∀ j u,A[j]?=some u->w.cell? ((⟨b',o',none⟩:Addr).add j)=some u:=fun j u E=>by rw [Addr.add_lit];exact c3 j u E
 have b2:A.length=q*i.size:=by rw [hs];exact hl
 have a5:∀ x,x<=1000000->x*i.bytes<=140737488355328:=fun x N=>by
  have:=Nat.mul_le_mul N c7;omega
 have c1:∀ (D:List Value) (r:Nat),(∀ j u,D[j]?=some u->Hc L Γ k (j%k.sz) u)->D.length%k.sz=0->∀ j,j<(D.toArray++Builtin.zeroCells z.cells r).size->∃ u,(D.toArray++Builtin.zeroCells z.cells r)[j]?=some u/\Hc L Γ k (j%k.sz) u:=fun D r ho b7 j E=>by
  by_cases a9:j<D.length
  ·refine ⟨D[j],?_,ho j _ (List.getElem?_eq_getElem a9)⟩;rw [Array.getElem?_append_left (by simpa using a9)];simp [a9]
  ·rw [Array.size_append,size_zeroCells,Z] at E;simp only [List.size_toArray] at E;rw [Array.getElem?_append_right (by simp;omega)]
   have d7:(j - D.length)%k.sz=j%k.sz:=by
    obtain ⟨d,hd⟩:=Nat.dvd_of_mod_eq_zero b7;have:j=(j - D.length)+k.sz*d:=by omega
    conv=>rhs;rw [this]
    rw [Nat.add_mul_mod_self_left]
   refine ⟨z.cells[(j - D.length)%k.sz]!,?_,?_⟩
   ·unfold Builtin.zeroCells;rw [Z];simp only [List.size_toArray];rw [Array.getElem?_map,Array.getElem?_range,if_pos (by omega)];rfl
   ·rw [d7];exact d6 L Γ _ (Nat.mod_lt _ c6)
 rcases hv with ⟨rfl,rfl⟩ | ⟨b,m,s,rfl,hΓ,g2,d9⟩
 ·have hr:=run_append_nil (P:=prog) w k.sl k.sl k.ty i z hu hi hz ⟨b',o',none⟩ q c A b2 J hq (by omega) (by have:=a5 q (by omega);omega);have d5:=grownCap_ge w q 0 k.ty;have a8:grownCap w q 0 k.ty<=maxLen:=grownCap_le_maxLen w q 0 k.ty (by unfold maxLen;omega);have hd:WT L H Γ w.drew:=h;have hN:=hd.new hH k (grownCap w q 0 k.ty) (A.toArray++Builtin.zeroCells z.cells (grownCap w q 0 k.ty - q)) (0,0) (by rw [Array.size_append,size_zeroCells,Z];simp only [List.size_toArray,hl];rw [<- Nat.add_mul];congr 1;omega) (.inl rfl) (c1 A _ X (by rw [hl];exact Nat.mul_mod_left _ _));refine ⟨_,_,upd Γ w.heap.size (k,grownCap w q 0 k.ty,0),hr,.inr ⟨w.heap.size,_,0,by rw [Nat.zero_add],by unfold upd;rw [if_pos rfl],by omega,a8⟩,cQ hd _,hN,(((Below.refl H w).drew).alloc hH _),fun x N _=>(World.grownBy_alloc w.drew _ none).block x N (by simp)⟩
 ·have d4:=h.lt hΓ
  by_cases M:n+q<=m
  ·have O:∀ j,j<A.length->(w.cell? ⟨b,0+n*i.size+j,none⟩).isSome=true/\w.frozen? ⟨b,0+n*i.size+j,none⟩=false:=fun j E=>h.bare hΓ (by
     rw [hs,Nat.zero_add];have:=Nat.mul_le_mul_right k.sz M;rw [Nat.add_mul] at this;omega)
   have hr:=run_append_room_cells (P:=prog) w k.sl k.sl k.ty i hu hi b 0 n m ⟨b',o',none⟩ q c A b2 J (fun u hu=>by obtain ⟨j,E,e⟩:=List.getElem_of_mem hu;exact (X j u (by rw [<- e];exact List.getElem?_eq_getElem E)).one) M (fun j E=>(O j E).1) (fun j E=>(O j E).2);rw [hs,Nat.zero_add] at hr
   have d1:WT L H Γ (w.setCells b (n*k.sz) A):=WT.sets b hΓ A _ w h (fun j u E=>by
    rw [Nat.add_comm (n*k.sz) j,Nat.add_mul_mod_self_right];exact X j u E)
   have hB:Below H w (w.setCells b (n*k.sz) A):=by
    have:∀ (Y:List Value) (o:Nat) (x:World),Below H w x->Below H w (x.setCells b o Y):=fun Y=>by
     induction Y with
     | nil=>intro o x N;exact N
     | cons u Y ih=>intro o x N;exact ih (o+1) _ (N.setCell (p:=⟨b,o,none⟩) d4.1 u)
    exact this A _ w (Below.refl H w)
   have b6:(m - min s (m - (n+q)))=max (m - s) (n+q):=by omega
   obtain ⟨hK,d0⟩:=d1.know hΓ (s':=min s (m - (n+q))) (Nat.min_le_left _ _) (fun j g9 a4=>by
    have f3:j<(n+q)*k.sz:=by
     rw [b6] at a4;rcases Nat.le_total (n+q) (m - s) with a7 | a7
     ·rw [Nat.max_eq_left a7] at a4;omega
     ·rw [Nat.max_eq_right a7] at a4;exact a4
    have g4:n*k.sz<=j:=by
     have:=Nat.mul_le_mul_right k.sz (show n<=m - s by omega);omega
    have c2:j - n*k.sz<A.length:=(by rw [hl];rw [Nat.add_mul] at f3;omega);refine ⟨A[j - n*k.sz],?_,?_⟩
    ·have N:=World.cell?_setCells_in b A (n*k.sz) w (fun i hi=>(h.bare hΓ (j:=n*k.sz+i) (by
      have:=Nat.mul_le_mul_right k.sz M;rw [Nat.add_mul] at this;omega)).1) (j - n*k.sz) c2
     rw [show n*k.sz+(j - n*k.sz)=j by omega] at N;exact N
    ·have:=X (j - n*k.sz) _ (List.getElem?_eq_getElem c2)
     have e:(j - n*k.sz)%k.sz=j%k.sz:=by
      have e':j=(j - n*k.sz)+n*k.sz:=by omega
      conv=>rhs;rw [e']
      rw [Nat.add_mul_mod_self_right]
     rw [<- e];exact this)
   exact ⟨_,_,_,hr,.inr ⟨b,m,_,rfl,by unfold upd;rw [if_pos rfl],by omega,d9⟩,d0,hK,hB,fun x _ N=>by
    have c9:x≠b:=fun e=>N m s (by rw [e];exact hΓ)
    have:∀ (Y:List Value) (o:Nat) (y:World),y.heap[x]?=w.heap[x]?->(y.setCells b o Y).heap[x]?=w.heap[x]?:=fun Y=>by
     induction Y with
     | nil=>intro o y hy;exact hy
     | cons u Y ih=>intro o y hy;exact ih (o+1) _ (by rw [heap_setCell_other y ⟨b,o,none⟩ x u c9];exact hy)
    exact this A _ w rfl⟩
  ·obtain ⟨h1,G,mk,h2,h3,g6,h4,h5⟩:=h b k m s hΓ;have g5:n*k.sz<=G.size:=(by rw [h3];exact Nat.mul_le_mul_right _ (by omega));have g0:=Nat.mul_le_mul_right k.sz (show n<=m - s by omega)
   have U:∀ j u,(G.toList.take (n*k.sz))[j]?=some u->w.cell? ((⟨b,0,none⟩:Addr).add j)=some u/\Hc L Γ k (j%k.sz) u:=fun j u E=>by
    have b0:j<n*k.sz:=(by have:=(List.getElem?_eq_some_iff.1 E).1;simp at this;omega);rw [List.getElem?_take,if_pos b0,Array.getElem?_toList] at E;obtain ⟨u',e,d2⟩:=h5 j (by omega);rw [E] at e;cases e;rw [Addr.add_lit,Nat.zero_add,cell_of_row w b j _ _ _ h2];exact ⟨E,d2⟩
   have S:(G.toList.take (n*k.sz)).length=n*i.size:=(by rw [hs];simp;omega);have hr:=run_append_grow (P:=prog) w k.sl k.sl k.ty i z hu hi hz ⟨b,0,none⟩ n m (G.toList.take (n*k.sz)) S (fun j u E=>(U j u E).1) ⟨b',o',none⟩ q c A b2 J (by omega) (by omega) (growslice_fits (by omega) (a5 _ hb));have d5:=grownCap_ge w (n+q) m k.ty;have a8:grownCap w (n+q) m k.ty<=maxLen:=grownCap_le_maxLen w (n+q) m k.ty (by unfold maxLen;omega);have hd:WT L H Γ w.drew:=h
   have d8:∀ j u,(G.toList.take (n*k.sz)++A)[j]?=some u->Hc L Γ k (j%k.sz) u:=fun j u E=>by
    by_cases b0:j<n*k.sz
    ·rw [List.getElem?_append_left (by rw [S,hs];exact b0)] at E;exact (U j u E).2
    ·rw [List.getElem?_append_right (by rw [S,hs];omega),S,hs] at E;have:=X _ u E;have e:j=(j - n*k.sz)+n*k.sz:=(by omega);rw [e,Nat.add_mul_mod_self_right];exact this
   have c0:(G.toList.take (n*k.sz)++A).length=(n+q)*k.sz:=by rw [List.length_append,S,hl,hs,Nat.add_mul]
   have hN:=hd.new hH k (grownCap w (n+q) m k.ty) ((G.toList.take (n*k.sz)++A).toArray++Builtin.zeroCells z.cells (grownCap w (n+q) m k.ty - (n+q))) (0,0)
    (by rw [Array.size_append,size_zeroCells,Z];simp only [List.size_toArray,c0];rw [<- Nat.add_mul];congr 1;omega) (.inl rfl) (c1 _ _ d8 (by rw [c0];exact Nat.mul_mod_left _ _))
   rw [show (G.toList.take (n*k.sz)).toArray++A.toArray=(G.toList.take (n*k.sz)++A).toArray by simp] at hr;exact ⟨_,_,upd Γ w.heap.size (k,grownCap w (n+q) m k.ty,0),hr,.inr ⟨w.heap.size,_,0,rfl,by unfold upd;rw [if_pos rfl],by omega,a8⟩,cQ hd _,hN,(((Below.refl H w).drew).alloc hH _),fun x N _=>(World.grownBy_alloc w.drew _ none).block x N (by simp)⟩
theorem WT.app {L H:Nat} {Γ:Gm} {w:World} (h:WT L H Γ w) (hH:H<=w.heap.size) {k:HK} {v:Value} {n:Nat} (hv:HV Γ k v n) (J E q c:Nat) (S:0<q) (y:List Value) (O:y.length=q*k.sz) (A:∀ j u,y[j]?=some u->w.cell? ⟨J,E+j,none⟩=some u) (G:∀ j u,y[j]?=some u->Hc L Γ k (j%k.sz) u) (hb:n+q<=1000000) (X:k.ok=true:=by rfl) :
  ∃ D w' Γ',(Builtin.append_ #[k.sl,k.sl] k.sl #[v,.slice (some ⟨J,E,none⟩) q c]).run prog w=.ok D w'/\HV Γ' k D (n+q)/\Gle Γ Γ'/\WT L H Γ' w'/\Below H w w':=by
 obtain ⟨D,w',Γ',U,Z,N,M,Y,_⟩:=h.appK hH hv J E q c S y O A G hb X;exact ⟨D,w',Γ',U,Z,N,M,Y⟩
theorem lW {α:Type} [Inhabited α] (P:Nat->α->Prop):∀ n:Nat,(∀ j,j<n->∃ z,P j z)->∃ zs:List α,zs.length=n/\∀ (j:Nat) (z:α),zs[j]?=some z->P j z
 | 0,_=>⟨[],rfl,fun j z h=>by simp at h⟩
 | n+1,h=>by
   obtain ⟨zs,D,G⟩:=lW P n (fun j J=>h j (by omega));obtain ⟨z,E⟩:=h n (by omega);refine ⟨zs++[z],by simp [D],fun j y A=>?_⟩
   by_cases J:j<n
   ·rw [List.getElem?_append_left (by omega)] at A;exact G j y A
   ·have:j=n:=by have:=(List.getElem?_eq_some_iff.1 A).1;simp [D] at this;omega
    subst this;rw [List.getElem?_append_right (by omega),D] at A;simp at A;subst A;exact E
section
variable {L H:Nat} {Γ:Gm} {w:World}
theorem HV.rdB {v:Value} {n:Nat} (h:HV Γ .bs v n) (G:WT L H Γ w):∃ zs,zs.length=n/\RdB w.heap.size w v zs/\Bys zs:=by
 rcases h with ⟨rfl,rfl⟩ | ⟨b,m,s,rfl,hΓ,M,N⟩
 ·exact ⟨[],rfl,⟨none,0,rfl,fun h=>absurd rfl h⟩,fun z y=>by simp at y⟩
 ·obtain ⟨zs,E,y⟩:=lW (fun j (z:Int)=>w.cell? ⟨b,j,none⟩=some (.int .u8 z)/\0<=z/\z<=255) n (fun j A=>by
   obtain ⟨u,e,⟨z,J,y⟩,_⟩:=G.cell hΓ (j:=j) (by simp only [HK.sz];omega);exact ⟨z,by rw [e,J],y⟩)
  refine ⟨zs,E,⟨_,m,by rw [E],fun _=>⟨b,0,rfl,(G.lt hΓ).2,fun j A=>?_⟩⟩,fun z D=>?_⟩
  ·rw [Nat.zero_add,(y j zs[j] (List.getElem?_eq_getElem A)).1,List.getElem?_eq_getElem A];rfl
  ·obtain ⟨j,A,e⟩:=List.getElem_of_mem D;exact (y j z (by rw [<- e];exact List.getElem?_eq_getElem A)).2
theorem HV.rdI {v:Value} {n:Nat} (h:HV Γ .is v n) (G:WT L H Γ w):∃ zs,zs.length=n/\RdI w.heap.size w v zs/\∀ z∈zs,-9223372036854775808<=z/\z<=9223372036854775807:=by
 rcases h with ⟨rfl,rfl⟩ | ⟨b,m,s,rfl,hΓ,M,N⟩
 ·exact ⟨[],rfl,⟨none,0,rfl,fun h=>absurd rfl h⟩,fun z y=>by simp at y⟩
 ·obtain ⟨zs,E,y⟩:=lW (fun j (z:Int)=>w.cell? ⟨b,j,none⟩=some (.int .i64 z)/\-9223372036854775808<=z/\z<=9223372036854775807) n (fun j A=>by
   obtain ⟨u,e,⟨z,J,y⟩,_⟩:=G.cell hΓ (j:=j) (by simp only [HK.sz];omega);exact ⟨z,by rw [e,J],y⟩)
  refine ⟨zs,E,⟨_,m,by rw [E],fun _=>⟨b,0,rfl,(G.lt hΓ).2,fun j A=>?_⟩⟩,fun z D=>?_⟩
  ·rw [Nat.zero_add,(y j zs[j] (List.getElem?_eq_getElem A)).1,List.getElem?_eq_getElem A];rfl
  ·obtain ⟨j,A,e⟩:=List.getElem_of_mem D;exact (y j z (by rw [<- e];exact List.getElem?_eq_getElem A)).2
def CmD (L:Nat) (c:Cm):Prop:=c.t.length<=L/\Bys c.t
instance:Inhabited Cm:=⟨⟨false,[]⟩⟩
theorem HV.rdC {v:Value} {n:Nat} (h:HV Γ .cm v n) (E:WT L H Γ w):∃ A,A.length=n/\RdC w.heap.size w v A/\∀ c∈A,CmD L c:=by
 rcases h with ⟨rfl,rfl⟩ | ⟨b,m,s,rfl,hΓ,h1,Z⟩
 ·exact ⟨[],rfl,⟨none,0,rfl,Nat.le_refl _,by unfold maxLen;omega,fun h=>absurd rfl h⟩,fun z D=>by simp at D⟩
 ·obtain ⟨A,M,D⟩:=lW (fun j (c:Cm)=>(∃ tv,aGA w.heap.size w b (0+j*2) c tv)/\CmD L c) n (fun j O=>by
   obtain ⟨u,e,J,_⟩:=E.cell hΓ (j:=j*2) (by simp only [HK.sz];omega);obtain ⟨U,e',y,_⟩:=E.cell hΓ (j:=j*2+1) (by simp only [HK.sz];omega);rw [show HK.cm.sz=2 from rfl,show j*2%2=0 by omega] at J;rw [show HK.cm.sz=2 from rfl,show (j*2+1)%2=1 by omega] at y;obtain ⟨S,rfl⟩:=J;obtain ⟨q,hq,N⟩:=y;obtain ⟨t,Y,X,hb⟩:=N.rdB E;exact ⟨⟨S,t⟩,⟨U,by rw [Nat.zero_add];exact e,by rw [Nat.zero_add];exact e',X,by rw [Y];exact N.sl⟩,by show t.length<=L;omega,hb⟩)
  refine ⟨A,M,⟨_,m,by rw [M],by omega,Z,fun _=>⟨b,0,rfl,(E.lt hΓ).2,fun j c G=>(D j c G).1⟩⟩,fun c G=>?_⟩;obtain ⟨j,O,e⟩:=List.getElem_of_mem G;exact (D j c (by rw [<- e];exact List.getElem?_eq_getElem O)).2
structure NdD (e0:Nat) (p:Nod):Prop where
 k : -9223372036854775808<=p.k/\p.k<=9223372036854775807
 L:p.L.length<=e0/\∀ c∈p.L,CmD e0 c
 key:p.key.length<=e0/\∀ z∈p.key,-9223372036854775808<=z/\z<=9223372036854775807
 X:p.X.length<=e0/\Bys p.X
 U:p.U.length<=e0/\∀ z∈p.U,-9223372036854775808<=z/\z<=9223372036854775807
 C : -9223372036854775808<=p.C/\p.C<=9223372036854775807
 tail:p.tail.length<=e0/\∀ c∈p.tail,CmD e0 c
instance:Inhabited Nod:=⟨⟨0,[],false,[],[],[],0,[]⟩⟩
theorem HV.rdN {v:Value} {n:Nat} (h:HV Γ .nd v n) (E:WT L H Γ w):∃ G,G.length=n/\RdN w.heap.size w v G/\∀ p∈G,NdD L p:=by
 rcases h with ⟨rfl,rfl⟩ | ⟨b,m,s,rfl,hΓ,h1,h2⟩
 ·exact ⟨[],rfl,⟨none,0,rfl,Nat.le_refl _,by unfold maxLen;omega,fun h=>absurd rfl h⟩,fun z J=>by simp at J⟩
 ·obtain ⟨G,hl,J⟩:=lW (fun j (p:Nod)=>(∃ lv O Y M tv,aA0 w.heap.size w b (0+j*8) p lv O Y M tv)/\NdD L p) n (fun j hj=>by
   have D:∀ i,i<8->∃ u,w.cell? ⟨b,j*8+i,none⟩=some u/\Hc L Γ .nd i u:=fun i hi=>by
    obtain ⟨u,e,hu,_⟩:=E.cell hΓ (j:=j*8+i) (by simp only [HK.sz];omega);rw [show HK.nd.sz=8 from rfl,show (j*8+i)%8=i by omega] at hu;exact ⟨u,e,hu⟩
   obtain ⟨_,e0,⟨k,rfl,hk⟩⟩:=D 0 (by omega);obtain ⟨lv,e1,q1,l1,V1⟩:=D 1 (by omega);obtain ⟨_,e2,⟨N,rfl⟩⟩:=D 2 (by omega);obtain ⟨O,e3,q3,l3,V3⟩:=D 3 (by omega);obtain ⟨Y,e4,q4,l4,Z⟩:=D 4 (by omega);obtain ⟨M,e5,q5,l5,V5⟩:=D 5 (by omega);obtain ⟨_,e6,⟨S,rfl,X⟩⟩:=D 6 (by omega);obtain ⟨tv,e7,q7,l7,V7⟩:=D 7 (by omega);obtain ⟨lead,a1,r1,d1⟩:=V1.rdC E;obtain ⟨key,a3,r3,d3⟩:=V3.rdI E;obtain ⟨A,a4,r4,d4⟩:=Z.rdB E;obtain ⟨y,a5,r5,d5⟩:=V5.rdI E;obtain ⟨tail,a7,r7,d7⟩:=V7.rdC E;rw [Nat.zero_add]
   exact ⟨⟨k,lead,N,key,A,y,S,tail⟩,⟨lv,O,Y,M,tv,e0,e1,e2,e3,e4,e5,e6,e7,r1,r3,by rw [a3];exact V3.sl,r4,by rw [a4];exact Z.sl,r5,by rw [a5];exact V5.sl,r7⟩,
    hk,⟨by show lead.length<=L;omega,d1⟩,⟨by show key.length<=L;omega,d3⟩,⟨by show A.length<=L;omega,d4⟩,⟨by show y.length<=L;omega,d5⟩,X,⟨by show tail.length<=L;omega,d7⟩⟩)
  refine ⟨G,hl,⟨_,m,by rw [hl],by omega,h2,fun _=>⟨b,0,rfl,(E.lt hΓ).2,fun j p U=>(J j p U).1⟩⟩,fun p U=>?_⟩;obtain ⟨j,hj,e⟩:=List.getElem_of_mem U;exact (J j p (by rw [<- e];exact List.getElem?_eq_getElem hj)).2
end
def nxD (zs:List Int) (i:Nat):Int × Nat:=if i<zs.length then (zs[i]?.getD 0,i+1) else (0,i)
theorem aIY {zs:List Int} (h:Bys zs) (i:Nat):0<=(nxD zs i).1/\(nxD zs i).1<=255:=by
 unfold nxD;split
 ·exact h.get i
 ·simp
theorem aKD {zs:List Int} {i:Nat} (h:i<=zs.length):(nxD zs i).2<=zs.length:=by
 unfold nxD;split<;>simp only<;>omega
def Rdr (F:Nat) (w:World) (vb:Value) (i:Int):Prop:=w.heap[F]?=some (.cells #[vb,.int .i64 i] 79 (0,0))
theorem Rdr.c0 {F:Nat} {w:World} {y:Value} {i:Int} (h:Rdr F w y i):w.cell? ⟨F,0,none⟩=some y:=by rw [cell_of_row w F 0 _ _ _ h];rfl
theorem Rdr.c1 {F:Nat} {w:World} {y:Value} {i:Int} (h:Rdr F w y i):w.cell? ⟨F,1,none⟩=some (.int .i64 i):=by rw [cell_of_row w F 1 _ _ _ h];rfl
theorem Rdr.fr {F:Nat} {w:World} {y:Value} {i:Int} (h:Rdr F w y i) (j:Nat):w.frozen? ⟨F,j,none⟩=false:=frozen_of_row w F j _ _ h
theorem Rdr.set1 {F:Nat} {w:World} {y:Value} {i q:Int} (h:Rdr F w y i):Rdr F (w.setCell ⟨F,1,none⟩ (.int .i64 q)) y q:=heap_setCell_same w F 1 _ _ _ h
theorem Rdr.lt {F:Nat} {w:World} {y:Value} {i:Int} (h:Rdr F w y i):F<w.heap.size:=(Array.getElem?_eq_some_iff.1 h).1
theorem Rdr.kept {F:Nat} {w w':World} {D:Value} {i:Int} {y:Option Nat} (h:Rdr F w D i) (E:w.grownBy w' y) (A:some F≠y):Rdr F w' D i:=(E.block F h.lt A).trans h
theorem aE0 (w:World) (F j:Nat) (v:Value):w.grownBy (w.setCell ⟨F,j,none⟩ v) (some F):=
 ⟨rfl,rfl,rfl,by simp,fun k _ h=>heap_setCell_other w ⟨F,j,none⟩ k v (fun e=>h (by simp [e]))⟩
theorem aEW {a b:World} (h:a.grownBy b none) (r:Option Nat):a.grownBy b r:=⟨h.os,h.tape,h.output,h.size,fun k y _=>h.block k y (by simp)⟩
theorem aAv (F:Nat) (v:Value) (zs:List Int) (i:Nat) (w:World) (E:Rdr F w v i) (hv:RdB F w v zs) (N:Bys zs) (hm:zs.length<=4194304) (Z:i<=zs.length) :
  Calls prog 28 #[.pointer (some ⟨F,0,none⟩)] w fun e w'=>e=.returned (.int .i64 (nxD zs i).1)/\Rdr F w' v ((nxD zs i).2:Int)/\w.grownBy w' (some F):=by
 obtain ⟨a,cap,rfl,M⟩:=hv;have q0:=E.c0;have q1:=E.c1;have r1:=E.fr 1;have O:Hid (Rdr F w (.slice a zs.length cap) i):=E;clear E
 by_cases y:i<zs.length
 ·have A:Hid (nxD zs i=(zs[i]?.getD 0,i+1)):=(by unfold Hid nxD;rw [if_pos y]);obtain ⟨b,off,rfl,hb,G⟩:=M (fun h=>by simp [h] at y);have J:=G i y;have D:=N.get i;generalize zs[i]?.getD 0=z at J D A;have S:(i:Int)<(zs.length:Int):=(by omega);have X:¬ b=F:=(by omega);obtain ⟨Y,U⟩:=D;clear M G
  go_enter func28,ntmps28
  go_wp2
  go_quiet (fail)
  go_wp2
  go_quiet (fail)
  go_wp2;go_ret;refine ⟨by rw [A.out];rfl,?_,?_⟩
  ·rw [A.out];exact O.out.set1
  ·exact aA (aEW (cO (World.grownBy.refl w none) _) _) (aE0 _ F 1 _)
 ·have A:Hid (nxD zs i=(0,i)):=(by unfold Hid nxD;rw [if_neg y]);clear M
  go_enter func28,ntmps28
  go_wp2
  go_quiet (fail)
  go_wp2;go_ret;refine ⟨by rw [A.out];rfl,?_,?_⟩
  ·rw [A.out];exact O.out
  ·exact cO (World.grownBy.refl _ _) _
theorem aEt (a:Option Addr) (cap:Nat) (zs:List Int) (w:World) (E:zs.length<=1048576) (D:zs.length<=cap) (A:cap<=9223372036854775807) :
  Calls prog 12 #[.slice a zs.length cap] w fun e w'=>e=.returned (.pointer (some ⟨w.heap.size,0,none⟩))/\w.alloc (.cells #[.slice a (min 500 zs.length) cap,.int .i64 0] 79)=w':=by
 by_cases h:500<zs.length
 ·have y:Hid (min 500 zs.length=500):=by unfold Hid;omega
  go_enter func12,ntmps12
  go_wp2;go_ret;exact ⟨rfl,by rw [y.out]⟩
 ·have y:Hid (min 500 zs.length=zs.length):=by unfold Hid;omega
  go_enter func12,ntmps12
  go_wp2;go_ret;exact ⟨rfl,by rw [y.out]⟩
end Go.Proofs.YtmfehflibkokbaaGreatDoor
