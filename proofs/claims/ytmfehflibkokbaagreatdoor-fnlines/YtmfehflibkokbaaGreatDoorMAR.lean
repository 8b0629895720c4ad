import Derived.Deep.RegionWith
import Derived.Deep.RegionLaw
import Derived.Sort.LoopGhostIn
import Derived.Test.YtmfehflibkokbaaGreatDoorMAM
set_option maxHeartbeats 16000000
set_option maxRecDepth 100000
namespace Go.Proofs.YtmfehflibkokbaaGreatDoor
open Go.Proofs.Tryz
open Go.RowKit
abbrev jV : String := "loop.example/s02863/impl.push"
theorem uV (t:TypeId) (h:t=178\/t=73\/t=179\/t=74\/t=75) (w:World):(nilAhead 361 t (.agg #[]) jV).run prog w=.ok (some false) w:=by
 rcases h with rfl | rfl | rfl | rfl | rfl<;>kernel_rfl
theorem vX (t:TypeId) (h:t=67\/t=185\/t=180\/t=188\/t=192) (a:Addr) (w:World):(nilAhead 361 t (.pointer (some a)) jV).run prog w=.ok (some false) w:=by
 rcases h with rfl | rfl | rfl | rfl | rfl<;>kernel_rfl
theorem uP (t:TypeId) (h:t=178\/t=73\/t=179\/t=74\/t=75) (w:World):(method 361 t (.agg #[]) jV).run prog w=.ok (208,.agg #[]) w:=by
 rcases h with rfl | rfl | rfl | rfl | rfl<;>kernel_rfl
theorem aKM (a:Addr) (w:World):(method 361 188 (.pointer (some a)) jV).run prog w=.ok (210,.pointer (some a)) w:=by kernel_rfl
theorem aIj (a:Addr) (w:World):(method 361 192 (.pointer (some a)) jV).run prog w=.ok (211,.pointer (some a)) w:=by kernel_rfl
set_option maxRecDepth 100000
theorem aJW:(Tryz.t67.methods.find? fun x=>x.name==jV)=some { name:=jV,sig:=122,path:=#[{ struct:=71,index:=0,deref:=true }],func:=some (208,false) }:=by kernel_rfl
theorem aHb:(Tryz.t185.methods.find? fun x=>x.name==jV)=some { name:=jV,sig:=122,path:=#[{ struct:=187,index:=0,deref:=true }],func:=some (209,false) }:=by kernel_rfl
theorem aJX:(Tryz.t180.methods.find? fun x=>x.name==jV)=some { name:=jV,sig:=122,path:=#[{ struct:=184,index:=0,deref:=true }],func:=some (209,false) }:=by kernel_rfl
theorem aIb (b:Nat) (u:Value) (w:World) (h:w.cell? ⟨b,0,none⟩=some u):(method 361 185 (.pointer (some ⟨b,0,none⟩)) jV).run prog w=.ok (209,.agg #[u]) w:=by
 unfold method;simp [go_sem];rw [aHb];simp [go_sem,follow,receiverAt,Place.get,h,fieldPlace]
theorem aJN (b:Nat) (u:Value) (w:World) (h:w.cell? ⟨b,0,none⟩=some u):(method 361 180 (.pointer (some ⟨b,0,none⟩)) jV).run prog w=.ok (209,.agg #[u]) w:=by
 unfold method;simp [go_sem];rw [aJX];simp [go_sem,follow,receiverAt,Place.get,h,fieldPlace]
theorem aF8 (b:Nat) (w:World) (y:Array Value) (h:w.heap[b]?=some (.cells y 71)):(partAt ⟨b,0,none⟩ 0 0).run prog w=.ok ⟨b,0,none⟩ w:=by
 have D:w.shape? b=some (71,y.size):=(by simp [World.shape?,h]);have A:prog.cellsOf 71=2:=(by kernel_rfl);have E:byteOfCell prog prog.depth 71 0=some 0:=(by kernel_rfl);unfold partAt byteOf noView viewAt;simp [go_sem,D,A,E]
theorem aKs (b:Nat) (w:World) (y:Array Value) (h:w.heap[b]?=some (.cells y 71)):(method 361 67 (.pointer (some ⟨b,0,none⟩)) jV).run prog w=.ok (208,.agg #[]) w:=by
 unfold method;simp [go_sem];rw [aJW];simp [go_sem,follow,Place.get,fieldPlace,aF8 b w y h];simp [go_sem,receiverAt,Place.get]
def lD (B:Nat) (w:World) (wv:Value) (n:Nat) (vs ks:List Value) (e:Ending) (w':World):Prop:=
 ∃ wv',e=.returned wv'/\w'.ownsRow B 62 1 wv' (n+ks.length) (vs++ks)/\w.grownBy w' wv.ownBlock/\(wv'.ownBlock=wv.ownBlock\/∃ g,wv'.ownBlock=some g/\w.heap.size<=g)
theorem pI {w D w':World} {y:Option Nat} (h:w.grownBy D none) (k:D.grownBy w' y):w.grownBy w' y:=
 ⟨k.os.trans h.os,k.tape.trans h.tape,k.output.trans h.output,Nat.le_trans h.size k.size,fun i A E=>(k.block i (Nat.lt_of_lt_of_le A h.size) E).trans (h.block i A (by simp))⟩
theorem iG (B:Nat) (w:World) (wv:Value) (n:Nat) (A:List Value) (fl:Bool) (h:w.ownsRow B 62 1 wv n A) :
  Calls prog 208 #[.agg #[],wv,.bool fl] w fun e w'=>lD B w wv n A [] e w':=by
 obtain ⟨a,cap,y,_,_⟩:=aU h;have D:Hid (w.ownsRow B 62 1 wv n A):=h;subst y;clear h
 go_enter func208,ntmps208
 go_wp2;go_ret;exact ⟨_,rfl,by simpa using World.ownsRow.alloc D.out _,gWA,.inl rfl⟩
theorem pP (B:Nat) (w:World) (wv:Value) (n:Nat) (U:List Value) (fl:Bool) (t:TypeId) (u:Value) (y:w.ownsRow B 62 1 wv n U) (hB:B<=w.heap.size) (hn:n<=1048576) :
  Calls prog 209 #[.agg #[.iface t u],wv,.bool fl] w fun e w'=>lD B w wv n U [.iface t u] e w':=by
 obtain ⟨Y,Z,O,J,M⟩:=info_parts qB;obtain ⟨a,cap,G,_,_⟩:=aU y;have E:=World.ownsRow.alloc y (.cells #[.iface t u] 182);subst G;clear y
 go_enter func209,ntmps209
 go_wp2_with (at_builtin;refine wpList_append_own_at _ rfl _ _ 96 rfl B 62 Y .nilIface 1 16 underlying96 Z O J M rfl (by decide) _ _ _ rfl (World.ownsRow.alloc E _) ⟨w.heap.size+1,0,none⟩ 1 1 [.iface t u] rfl rfl (by have:=cell_one_new (w.alloc (.cells #[.iface t u] 182)) (.iface t u) 62;rw [World.size_alloc] at this;exact this) (by intro u S;simp at S;subst S;rfl) (by unfold maxLen;omega) (by omega) (by simp;omega) ?_;intro X w1 A D _ N)
 go_ret;refine ⟨X,rfl,A,?_,?_⟩
 ·exact pI (aA gWA gWA) D
 ·rcases N with h | h
  ·exact .inl h
  ·exact .inr ⟨_,h,by simp;omega⟩
theorem wZ (B:Nat) (w:World) (wv:Value) (n:Nat) (Y:List Value) (fl:Bool) (b:Nat) (t X:TypeId) (u U:Value) (c0:w.cell? ⟨b,0,none⟩=some (.iface t u)) (c1:w.cell? ⟨b,1,none⟩=some (.iface X U)) (D:w.ownsRow B 62 1 wv n Y) (hB:B<=w.heap.size) (hn:n<=1048576) :
  Calls prog 211 #[.pointer (some ⟨b,0,none⟩),wv,.bool fl] w fun e w'=>lD B w wv n Y [if fl then .iface X U else .iface t u] e w':=by
 obtain ⟨Z,hi,N,G,M⟩:=info_parts qB;obtain ⟨a,cap,S,_,_⟩:=aU D;subst S;cases fl with
 | true=>
   go_enter func211,ntmps211
   go_wp2_with (at_builtin;refine wpList_append_own_at _ rfl _ _ 96 rfl B 62 Z .nilIface 1 16 underlying96 hi N G M rfl (by decide) _ _ _ rfl (World.ownsRow.alloc D _) ⟨w.heap.size,0,none⟩ 1 1 [.iface X U] rfl rfl (cell_one_new _ _ _) (by intro u J;simp at J;subst J;rfl) (by unfold maxLen;omega) (by omega) (by simp;omega) ?_;intro O w1 y A _ E)
   go_ret;refine ⟨O,rfl,y,pI gWA A,?_⟩;rcases E with h | h
   ·exact .inl h
   ·exact .inr ⟨_,h,by simp⟩
 | false=>
   go_enter func211,ntmps211
   go_wp2_with (at_builtin;refine wpList_append_own_at _ rfl _ _ 96 rfl B 62 Z .nilIface 1 16 underlying96 hi N G M rfl (by decide) _ _ _ rfl (World.ownsRow.alloc D _) ⟨w.heap.size,0,none⟩ 1 1 [.iface t u] rfl rfl (cell_one_new _ _ _) (by intro u J;simp at J;subst J;rfl) (by unfold maxLen;omega) (by omega) (by simp;omega) ?_;intro O w1 y A _ E)
   go_ret;refine ⟨O,rfl,y,pI gWA A,?_⟩;rcases E with h | h
   ·exact .inl h
   ·exact .inr ⟨_,h,by simp⟩
theorem uQ {P:Program} {ops:Array Oper} {o:Oper} {a:Act} {w:World} {K:Act->World->Prop} {Q:Exit->Act->World->Prop} {E:Prop} (M:o.guard=none) (s x:Operand) (t:TypeId)
  (y:o.op=Op.call { callee:=Callee.builtin Builtin.append,args:=#[s,x],argTypes:=#[t,t] }) (v D A:Value) (w':World) (G:a.eval s=v) (N:a.eval x=D)
  (h:(Builtin.append_ #[t,t] o.type #[v,D]).run P w=.ok A w') (J:K (a.put o.dst A) w'):if Region.wanted o (yielded ops a.tmps)=true then Oper.wp P o a w K Q else E:=by
 rw [if_pos (show Region.wanted o (yielded ops a.tmps)=true by simp [Region.wanted,M])];unfold Oper.wp;simp only [execOp,y,resolve,invoke,builtin,Sem.run_bind,Sem.run_pure,Result.andThen_ok,List.map_toArray,List.map_cons,List.map_nil,G,N,h];exact J
theorem aCS (B:Nat) (w:World) (wv:Value) (n:Nat) (O:List Value) (fl:Bool) (b:Nat) (t M:TypeId) (u J:Value) (c0:w.cell? ⟨b,0,none⟩=some (.iface t u)) (c1:w.cell? ⟨b,1,none⟩=some (.iface M J)) (D:w.ownsRow B 62 1 wv n O) (hB:B<=w.heap.size) (hn:n<=1048576) :
  Calls prog 210 #[.pointer (some ⟨b,0,none⟩),wv,.bool fl] w fun e w'=>lD B w wv n O [.iface M J,.iface t u] e w':=by
 obtain ⟨i0,hi,a6,U,a5⟩:=info_parts qB;obtain ⟨a,cap,a4,_,_⟩:=aU D;subst a4;have E:w.drew.ownsRow B 62 1 (.slice a n cap) n O:=D;obtain ⟨Y,w1,N,y,A,_,S⟩:=run_append_own_at (P:=prog) (w.drew.alloc (.cells #[.iface M J,.iface t u] 62)) B 96 96 62 i0 .nilIface 1 16 underlying96 hi a6 U a5 rfl (by decide) (.slice a n cap) n O (World.ownsRow.alloc E _) ⟨w.heap.size,0,none⟩ 2 2 [.iface M J,.iface t u] rfl (zZ w.drew _ _ _) (by intro u hu;simp at hu;rcases hu with rfl | rfl<;>rfl) (by unfold maxLen;omega) (by omega) (by simp;omega);have G:=N;rw [World.alloc_drew] at G;have HO:Hid (w1.ownsRow B 62 1 Y (n+2) (O++[.iface M J,.iface t u])):=y;have g0:w.grownBy (w.drew.alloc (.cells #[.iface M J,.iface t u] 62)) none:=⟨rfl,rfl,rfl,by simp,fun i hi _=>Below.heap_alloc w.drew _ i hi⟩;have HG:Hid (w.grownBy w1 (Value.slice a n cap).ownBlock):=pI g0 A
 have X:Hid (Y.ownBlock=(Value.slice a n cap).ownBlock\/∃ g,Y.ownBlock=some g/\w.heap.size<=g):=by
  rcases S with h | h
  ·exact .inl h
  ·exact .inr ⟨_,h,by simp⟩
 obtain ⟨va,a8,Z,_,_⟩:=aU y;clear D E y A S g0;subst Z
 go_enter func210,ntmps210
 go_wp2
 go_region_law (refine uQ rfl (.tmp 7) (.tmp 16) 96 rfl _ _ _ _ (by simp [Act.eval]) (by simp [Act.eval]) G ?_)
 all_goals
  go_wp2;go_ret;exact ⟨_,rfl,HO.out,HG.out,X.out⟩
end Go.Proofs.YtmfehflibkokbaaGreatDoor
namespace Go.Proofs.YtmfehflibkokbaaGreatDoor
open Go.Proofs.Tryz
open Go.RowKit Go.Shelf
attribute [local go_sem] Oper.semAt_some
abbrev Nd (n₀:Nat) (w0:World):Type:={ x:Value × Tr // Rep (fun b=>n₀<=b) n₀ w0 x.1 x.2/\sz x.2<=140000 }
theorem Rep.below {n₀:Nat} {w w':World} {v:Value} {T:Tr} (h:Rep (fun b=>n₀<=b) n₀ w v T) (y:Below n₀ w w'):Rep (fun b=>n₀<=b) n₀ w' v T:=
 h.turn y.size (fun b _ D=>y.block b (by omega)) (fun _ _ h=>h) (fun _ _ A=>Rd.below A y)
def aLq (n₀:Nat) (w0:World) (fl:Bool) (x:Nd n₀ w0):Prop:=
 ∃ (t:TypeId) (v:Value) (ks:List (Nd n₀ w0)),x.1.1=.iface t v/\ks.map (·.1.2)=vW fl x.1.2/\
  (∀ W:World,(nilAhead 361 t v jV).run prog W=.ok (some false) W)/\
  ∃ rv,
   ((∀ W,Below n₀ w0 W->(method 361 t v jV).run prog W=.ok (208,rv) W)/\
     ∀ B W wv n vs,n₀<=B->B<=W.heap.size->Below n₀ w0 W->n<=1048576->W.ownsRow B 62 1 wv n vs->Calls prog 208 #[rv,wv,.bool fl] W fun e W'=>lD B W wv n vs (ks.map (·.1.1)).reverse e W')\/
   ((∀ W,Below n₀ w0 W->(method 361 t v jV).run prog W=.ok (209,rv) W)/\
     ∀ B W wv n vs,n₀<=B->B<=W.heap.size->Below n₀ w0 W->n<=1048576->W.ownsRow B 62 1 wv n vs->Calls prog 209 #[rv,wv,.bool fl] W fun e W'=>lD B W wv n vs (ks.map (·.1.1)).reverse e W')\/
   ((∀ W,Below n₀ w0 W->(method 361 t v jV).run prog W=.ok (210,rv) W)/\
     ∀ B W wv n vs,n₀<=B->B<=W.heap.size->Below n₀ w0 W->n<=1048576->W.ownsRow B 62 1 wv n vs->Calls prog 210 #[rv,wv,.bool fl] W fun e W'=>lD B W wv n vs (ks.map (·.1.1)).reverse e W')\/
   ((∀ W,Below n₀ w0 W->(method 361 t v jV).run prog W=.ok (211,rv) W)/\
     ∀ B W wv n vs,n₀<=B->B<=W.heap.size->Below n₀ w0 W->n<=1048576->W.ownsRow B 62 1 wv n vs->Calls prog 211 #[rv,wv,.bool fl] W fun e W'=>lD B W wv n vs (ks.map (·.1.1)).reverse e W')
theorem kT {n₀ b o:Nat} {w0 W:World} {v:Value} (y:Below n₀ w0 W) (A:¬ n₀<=b) (h:w0.cell? ⟨b,o,none⟩=some v):W.cell? ⟨b,o,none⟩=some v:=(y.cell (by simpa using A)).trans h
theorem aLC (n₀:Nat) (w0:World) (fl:Bool) (x:Nd n₀ w0):aLq n₀ w0 fl x:=by
 obtain ⟨⟨v,T⟩,hr,hz⟩:=x;cases T with
 | leaf p=>
   simp only [Rep] at hr;rcases hr with h | h | h | h | h | ⟨h1,b,tv,h2,O,h4,Y,E,h8⟩
   ·exact ⟨_,_,[],h.2,rfl,fun W=>uV _ (.inl rfl) W,_,.inl ⟨fun W _=>uP _ (.inl rfl) W,fun B W wv n D _ _ _ _ A=>iG B W wv n D fl A⟩⟩
   ·exact ⟨_,_,[],h.2,rfl,fun W=>uV _ (.inr (.inl rfl)) W,_,.inl ⟨fun W _=>uP _ (.inr (.inl rfl)) W,fun B W wv n D _ _ _ _ A=>iG B W wv n D fl A⟩⟩
   ·exact ⟨_,_,[],h.2,rfl,fun W=>uV _ (.inr (.inr (.inl rfl))) W,_,.inl ⟨fun W _=>uP _ (.inr (.inr (.inl rfl))) W,fun B W wv n D _ _ _ _ A=>iG B W wv n D fl A⟩⟩
   ·exact ⟨_,_,[],h.2,rfl,fun W=>uV _ (.inr (.inr (.inr (.inl rfl)))) W,_,.inl ⟨fun W _=>uP _ (.inr (.inr (.inr (.inl rfl)))) W,fun B W wv n D _ _ _ _ A=>iG B W wv n D fl A⟩⟩
   ·exact ⟨_,_,[],h.2,rfl,fun W=>uV _ (.inr (.inr (.inr (.inr rfl)))) W,_,.inl ⟨fun W _=>uP _ (.inr (.inr (.inr (.inr rfl)))) W,fun B W wv n D _ _ _ _ A=>iG B W wv n D fl A⟩⟩
   ·exact ⟨_,_,[],h2,rfl,fun W=>vX _ (.inl rfl) _ W,_,.inl ⟨fun W G=>aKs b W _ ((G.block b (by omega)).trans Y),fun B W wv n D _ _ _ _ A=>iG B W wv n D fl A⟩⟩
 | un p y=>
   simp only [Rep] at hr;obtain ⟨b,u,O,h4,Y,h6,E⟩:=hr;obtain ⟨N,S,hu⟩:=h6.form;subst hu;rcases E with E | E
   ·exact ⟨_,_,[⟨(.iface N S,y),h6,by show sz y<=140000;simp only [sz] at hz;omega⟩],E.2,rfl,fun W=>vX _ (.inr (.inl rfl)) _ W,_,.inr (.inl ⟨fun W G=>aIb b _ W (kT G O Y),fun B W wv n D _ X _ U A=>pP B W wv n D fl N S A X U⟩)⟩
   ·exact ⟨_,_,[⟨(.iface N S,y),h6,by show sz y<=140000;simp only [sz] at hz;omega⟩],E.2,rfl,fun W=>vX _ (.inr (.inr (.inl rfl))) _ W,_,.inr (.inl ⟨fun W G=>aJN b _ W (kT G O Y),fun B W wv n D _ X _ U A=>pP B W wv n D fl N S A X U⟩)⟩
 | bin p y z=>
   simp only [Rep] at hr;obtain ⟨b,u,u',O,h4,Y,Z,h6,a4,E⟩:=hr;obtain ⟨N,S,hu⟩:=h6.form;obtain ⟨M,J,a9⟩:=a4.form;subst hu a9;rcases E with E | E
   ·exact ⟨_,_,[⟨(.iface N S,y),h6,by show sz y<=140000;simp only [sz] at hz;omega⟩,⟨(.iface M J,z),a4,by show sz z<=140000;simp only [sz] at hz;omega⟩],E.2,by simp [vW,E.1],fun W=>vX _ (.inr (.inr (.inr (.inl rfl)))) _ W,_,.inr (.inr (.inl ⟨fun W _=>aKM _ W,fun B W wv n D _ X G U A=>aCS B W wv n D fl b N M S J (kT G O Y) (kT G O Z) A X U⟩))⟩
   ·cases fl with
    | true=>exact ⟨_,_,[⟨(.iface M J,z),a4,by show sz z<=140000;simp only [sz] at hz;omega⟩],E.2,by simp [vW,E.1],fun W=>vX _ (.inr (.inr (.inr (.inr rfl)))) _ W,_,.inr (.inr (.inr ⟨fun W _=>aIj _ W,fun B W wv n D _ X G U A=>wZ B W wv n D true b N M S J (kT G O Y) (kT G O Z) A X U⟩))⟩
    | false=>exact ⟨_,_,[⟨(.iface N S,y),h6,by show sz y<=140000;simp only [sz] at hz;omega⟩],E.2,by simp [vW,E.1],fun W=>vX _ (.inr (.inr (.inr (.inr rfl)))) _ W,_,.inr (.inr (.inr ⟨fun W _=>aIj _ W,fun B W wv n D _ X G U A=>wZ B W wv n D false b N M S J (kT G O Y) (kT G O Z) A X U⟩))⟩
def Xt (tb:Nat) (W:World) (b:Nat):Prop:=b=tb\/∃ v,W.cell? ⟨tb,0,none⟩=some v/\v.ownBlock=some b
structure KpX (n₀ tb:Nat) (W W':World):Prop where
 bel:Below n₀ W W'
 blk:∀ b o,W.heap[b]?=some o->o.isCells=true->¬ Xt tb W b->W'.heap[b]?=some o
 mono:∀ b,Xt tb W' b->Xt tb W b\/(W.heap.size<=b/\b<W'.heap.size)
theorem KpX.trans {n₀ tb:Nat} {A B C:World} (h:KpX n₀ tb A B) (k:KpX n₀ tb B C):KpX n₀ tb A C:=by
 refine ⟨h.bel.trans k.bel,fun b o D E J=>?_,fun b N=>?_⟩
 ·refine k.blk b o (h.blk b o D E J) E (fun e=>?_);have M:=(Array.getElem?_eq_some_iff.1 D).1;rcases h.mono b e with y | y
  ·exact J y
  ·omega
 ·have:=h.bel.size;have:=k.bel.size;rcases k.mono b N with y | y
  ·rcases h.mono b y with G | G
   ·exact .inl G
   ·exact .inr (by omega)
  ·exact .inr (by omega)
theorem aBW {y:Nat} {W A:World} (h:A.heap[y]?=W.heap[y]?) (b:Nat):Xt y A b ↔ Xt y W b:=by
 unfold Xt;rw [World.cell?_of_block (a:=⟨y,0,none⟩) h]
theorem KpX.put {n₀ tb:Nat} {W:World} {l:Nat} {o:Obj} (D:Obj) (O:n₀<=l) (J:tb≠l) (E:W.heap[l]?=some o) (G:o.isCells=false):KpX n₀ tb W (W.putObj l D):=by
 have y:(W.putObj l D).heap[tb]?=W.heap[tb]?:=World.putObj_heap_other J;refine ⟨⟨rfl,rfl,rfl,by simp,fun k S=>World.putObj_heap_other (by omega)⟩,fun b N A h _=>?_,fun b M=>.inl ((aBW y b).1 M)⟩;rw [World.putObj_heap_other (fun e=>by subst e;rw [E] at A;cases A;rw [G] at h;cases h)];exact A
end Go.Proofs.YtmfehflibkokbaaGreatDoor
