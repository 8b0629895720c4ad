import Derived.Maps.OwnOps
import Derived.Test.YtgifkcpdihphlaaGreatDoorMBH
set_option maxHeartbeats 16000000
set_option maxRecDepth 100000
namespace Go.Proofs.YtgifkcpdihphlaaGreatDoor
open Tryz
open Go.RowKit
theorem aLh (doc:List Pc) (k:Nat) (u:k<doc.length) (j:Int) (st:List (Tr × Int)) (r:Int) (s:List (Tr × Int)) (h:bP j st doc[k]=some (r,s)):lP (doc.drop k) j st=lP (doc.drop (k+1)) r s:=by
 rw [List.drop_eq_getElem_cons u];simp only [lP,h,Option.bind_some]
theorem aIN (doc:List Pc) (k:Nat) (u:k<doc.length) (j:Int) (st:List (Tr × Int)) (h:bP j st doc[k]=none):lP (doc.drop k) j st=none:=by
 rw [List.drop_eq_getElem_cons u];simp only [lP,h,Option.bind_none]
theorem aKD {j:List Mk} (h:aEE (cF j)):∀ x∈j,0<=x.n/\x.n<=4000:=by
 intro x u;have:=h (x.T,x.n) (by simp only [cF,List.mem_reverse,List.mem_map];exact ⟨x,u,rfl⟩);exact ⟨this.2.1,this.2.2⟩
theorem aFx {j r:Int} {st s:List (Tr × Int)} {p:Pc} (h:bP j st p=some (r,s)):s.length<=st.length+1:=by
 unfold bP at h
 split at h
 ·cases h
 ·split at h
  ·split at h
   ·cases h
   ·split at h
    ·cases h
    ·cases h;simp
  ·split at h
   ·cases h;simp
   ·split at h
    ·split at h
     ·cases h;simp
     ·cases h
    ·split at h
     ·split at h
      ·split at h
       ·cases h
       ·cases h;simp
      ·cases h
     ·cases h
theorem aKs {w:World} (j:Int) (t:TypeId):Bst w.heap.size (w.alloc (.cells #[.slice none 0 0,.slice none 0 0,.int .i64 j] t)) w.heap.size (.slice none 0 0) (.slice none 0 0) [] (cB []) j:=
 ⟨Nat.le_refl _,by simp [go_sem],by simp [go_sem],by simp [go_sem],by simp [go_sem],by simp [go_sem],by simp [go_sem],World.ownsRow_nil _ _ _ _,World.ownsRow_nil _ _ _ _,by simp [Value.ownBlock],by simp [Value.ownBlock],fun g h=>by simp [Value.ownBlock] at h,⟨by simp [cB],fun t b h=>by simp [cB] at h⟩,(fun x u=>by cases u),(fun x u=>by cases u)⟩
def aB9 (doc:List Pc) (w:World) (e:Ending) (w':World):Prop:=
 Below w.heap.size w w'/\((doc.length<=40000/\∃ T n u nv l,lP doc 100000 []=some [(T,n)]/\e=.returned nv/\l.length=doc.length/\w'.ownsRow w.heap.size 153 1 nv l.length l/\Rep (fun _=>False) w.heap.size w' u T/\cV w' u T l/\lH (fun _=>False) w' l)\/
  (e=.returned (.slice none 0 0)/\(40000<doc.length\/lP doc 100000 []=none\/∃ s,lP doc 100000 []=some s/\s.length≠1)))
theorem aD9 (v:Value) (doc:List Pc) (w:World) (hv:RdP w.heap.size w v doc) (hd:Doc doc) (hT:Tab w) :
  Calls prog 51 #[v] w fun e w'=>aB9 doc w e w':=by
 obtain ⟨a,cap,b5,f8,f9,_⟩:=id hv;have hl:=hd.len;have Y:=hT.pos
 by_cases h4:doc.length > 40000
 ·have U:Hid (40000<doc.length):=h4;subst b5;clear hv hT
  go_enter func51,ntmps51
  go_wp2;go_ret;exact ⟨Below.refl _ _,.inr ⟨rfl,.inl U.out⟩⟩
 subst b5;have HV:Hid (RdP w.heap.size w (.slice a doc.length cap) doc):=hv;have HT:Hid (Tab w):=hT;have HB:Hid (Bst w.heap.size (w.alloc (.cells #[.slice none 0 0,.slice none 0 0,.int .i64 100000] 146)) w.heap.size (.slice none 0 0) (.slice none 0 0) [] (cB []) 100000):=aKs _ _;clear hv hT
 go_enter func51,ntmps51
 go_wp2
 go_loopw [12] (fun i wr=>∃ (k:Nat) (nv rv:Value) (D:List Mk) (j:Int),k<=doc.length/\i=.int .i64 k/\Bst w.heap.size wr w.heap.size nv rv D (cB D) j/\Hid ((cB D).length=k)/\Hid (lP (doc.drop k) j (cF D)=lP doc 100000 [])/\0<=j/\j<=100000/\aEE (cF D)/\D.length<=k/\Below w.heap.size w wr)
  (fun i _=>doc.length - (intOf i).toNat)
 case atStart=>exact ⟨0,_,_,[],100000,Nat.zero_le _,rfl,HB.out,rfl,rfl,by omega,by omega,(fun x hx=>by cases hx),Nat.le_refl _,(Below.refl _ _).alloc (Nat.le_refl _) _⟩
 case round=>
  obtain ⟨k,nv,rv,D,j,hk,rfl,H,HL,HG,b7,d5,y,h9,E⟩:=hrel;have d6:=E.size
  by_cases O:k<doc.length
  ·obtain ⟨b,off,f6,tv,d1,hb,hp⟩:=(HV.out.beside (aC E) (fun _ e=>by cases e)).at k O;cases d1;have i2:=hp.k;have h0:=hp.t;have h6:=hp.n;have J:=List.getElem_mem O;have S:wr.grownBy (wr.alloc (.cells #[.int .i64 doc[k].k,tv,.int .i64 doc[k].n] 74)) none:=gWA;have u:=aH2 w.heap.size _ w.heap.size nv rv D j doc[k] tv (H.K S) (hp.rd.K S) hp.sl (hd.bys _ J) (hd.tlen _ J) b7 d5 (by simp;omega) Y ((HT.out.below E Y).K S) (by omega) (by rw [HL.out];omega) (aKD y);rw [HL.out] at u;have a8:=aBW j (cF D) doc[k] b7 y;have a9:=aLh doc k O j (cF D);have L:=aIN doc k O j (cF D);have b6:Hid (Below w.heap.size w (wr.alloc (.cells #[.int .i64 doc[k].k,tv,.int .i64 doc[k].n] 74))):=E.alloc d6 _;obtain ⟨ta,g4,c7,_,_⟩:=hp.sl;subst c7;clear hp J S y HV HT HB H E HL;generalize doc[k]=p at *;cases A:bP j (cF D) p with
   | none=>
     have U:Hid (lP doc 100000 []=none):=(by unfold Hid;rw [<- HG.out];exact L A);rw [A] at u;clear a8 a9 L A HG
     go_wp2_with fail
     refine u.mono ?_;rintro e w1 ⟨b1,G⟩;simp only at G;subst G;go_wp2;go_ret;exact ⟨b6.out.trans b1,.inr ⟨rfl,.inr (.inl U.out)⟩⟩
   | some x=>
     obtain ⟨r,s⟩:=x;have c9:Hid (lP (doc.drop (k+1)) r s=lP doc 100000 []):=by unfold Hid;rw [<- HG.out];exact (a9 r s A).symm
     have M:0<=r/\r<=100000/\aEE s:=by
      rcases a8 with ⟨s',G,h2,h3,h4,h5⟩ | ⟨G,_⟩
      ·rw [A] at G;cases G;exact ⟨by omega,by omega,h5⟩
      ·rw [A] at G;cases G
     obtain ⟨f1,f2,f3⟩:=M;have d8:=aFx A;rw [rB] at d8;have f4:Hid (aEE s):=f3;rw [A] at u;clear a8 a9 L A HG f3
     go_wp2_with fail
     refine u.mono ?_;rintro e w1 ⟨b1,G,d0,c8,N,h2,h3,h4⟩;subst G;have b3:N.length<=k+1:=(by rw [<- rB,h2];omega);have H2:Hid (cF N=s):=h2;have H4:Hid ((cB N).length=k+1):=h4;clear h2 h4;go_wp2
     go_roundw
     case rel=>exact ⟨k+1,d0,c8,N,r,by omega,by go_num,h3,H4,by unfold Hid;rw [H2.out];exact c9.out,f1,f2,by rw [H2.out];exact f4.out,b3,b6.out.trans b1⟩
     case measure=>simp [intOf];omega
  ·have b4:k=doc.length:=(by omega);have U:Hid (lP doc 100000 []=some (cF D)):=(by unfold Hid;rw [<- HG.out,b4];simp [lP]);have c0:=H.c0;have c1:=H.c1;obtain ⟨ra,f7,a4,g9,d9⟩:=bD H.row;obtain ⟨na,g2,b8,g7,f5⟩:=bD H.nrow;unfold maxLen at d9 f5
   by_cases G:D.length=1
   ·obtain ⟨X,hX⟩:∃ X,D=[X]:=List.length_eq_one_iff.1 G;subst hX;have Z:=H.rep X (by simp);have HR:Hid (Rep (fun _=>False) w.heap.size wr X.v X.T):=Z.turn (Nat.le_refl _) (fun _ _ _=>rfl) (fun _ _ h=>h.elim) (fun _ _ h=>h);have HP:Hid (cV wr X.v X.T (cB [X])):=(by unfold Hid;rw [cX];exact H.post X (by simp));have HO:Hid (lH (fun _=>False) wr (cB [X])):=H.once.turn (fun _ _ _=>rfl) (fun _ _ h=>h.elim);have HN:Hid (wr.ownsRow w.heap.size 153 1 nv (cB [X]).length (cB [X])):=H.nrow;have a6:Hid (lP doc 100000 []=some [(X.T,X.n)]):=(by unfold Hid;rw [U.out];rfl);have d3:Hid ((cB [X]).length=doc.length):=(by unfold Hid;rw [HL.out,b4]);simp only [List.length_cons,List.length_nil,Nat.zero_add] at a4;generalize c6:cB [X]=LL at *;subst a4;subst b8;clear H Z HV HT HB U HG y G HL c6;go_wp2;go_ret;exact ⟨E,.inl ⟨by omega,X.T,X.n,X.v,_,LL,a6.out,rfl,d3.out,HN.out,HR.out,HP.out,HO.out⟩⟩
   ·have e1:((D.length:Int) != 1)=true:=(by simp;omega);have a6:Hid (∃ s,lP doc 100000 []=some s/\s.length≠1):=⟨_,U.out,by rw [rB];exact G⟩;subst a4;clear H HV HT HB U HG y G HL b8;go_wp2;go_ret;exact ⟨E,.inr ⟨rfl,.inr (.inr a6.out)⟩⟩
theorem cV.last {w:World} : ∀ {T:Tr} {v:Value} {l:List Value},cV w v T l->∃ u,l=u++[v]
 | .leaf _,v,l,h=>⟨[],by simpa [cV] using h⟩
 | .un _ _,v,l,h=>by
   simp only [cV] at h;obtain ⟨_,_,_,j,_,_,_,_,h⟩:=h;exact ⟨j,h⟩
 | .bin _ _ _,v,l,h=>by
   simp only [cV] at h;obtain ⟨_,_,_,_,j,y,_,_,_,_,_,h⟩:=h;exact ⟨j++y,h⟩
theorem aDi {doc:List Pc} {w:World} {e:Ending} {w':World} (h:aB9 doc w e w') :
  Below w.heap.size w w'/\((iQ doc=true/\doc.length<=40000/\∃ T u nv l,bd doc []=some [T]/\Seg doc (cK doc) T 0 doc.length/\e=.returned nv/\l.length=doc.length/\w'.ownsRow w.heap.size 153 1 nv l.length l/\Rep (fun _=>False) w.heap.size w' u T/\cV w' u T l/\lH (fun _=>False) w' l)\/(iQ doc=false/\e=.returned (.slice none 0 0))):=by
 refine ⟨h.1,?_⟩;rcases aJd doc with ⟨A,G,T,n,J,D,N⟩ | ⟨A,G⟩
 ·rcases h.2 with ⟨y,L,H,u,nv,l,j,E⟩ | ⟨y,j⟩
  ·rw [D] at j;cases j;exact .inl ⟨A,y,T,u,nv,l,J,N,E⟩
  ·rw [D] at j;rcases j with k | k | ⟨s,k,k'⟩
   ·omega
   ·cases k
   ·cases k;simp at k'
 ·rcases h.2 with ⟨y,L,H,u,nv,l,j,E⟩ | ⟨y,j⟩
  ·rcases G with h | h | ⟨s,h,M⟩
   ·omega
   ·rw [j] at h;cases h
   ·rw [j] at h;cases h;simp at M
  ·exact .inr ⟨A,y⟩
def aGI (t:TypeId):Prop:=t=182\/t=183\/t=184\/t=185\/t=186
def aMI (t:TypeId):Prop:=t=187\/t=195\/t=190\/t=198\/t=202
inductive NKey (w:World):Value->Prop
 | leaf (t:TypeId) (h:aGI t):NKey w (.iface t (.agg #[]))
 | ptr (t:TypeId) (b:Nat) (cs:Array Value) (t':TypeId) (h:aMI t) (hb:w.heap[b]?=some (.cells cs t')):NKey w (.iface t (.pointer (some ⟨b,0,none⟩)))
theorem NKey.turn {w w':World} {v:Value} (h:NKey w v) (j:∀ t b,v=.iface t (.pointer (some ⟨b,0,none⟩))->w'.heap[b]?=w.heap[b]?):NKey w' v:=by
 cases h with
 | leaf t h=>exact .leaf t h
 | ptr t b cs t' h hb=>exact .ptr t b cs t' h ((j t b rfl).trans hb)
def iR:Value->Option (TypeId × Option Nat)
 | .iface t (.agg _)=>some (t,none)
 | .iface t (.pointer (some a))=>some (t,some a.block)
 | .pointer (some a)=>some (0,some a.block)
 | _=>none
def kEq (x y:Value):Bool:=
 match iR x,iR y with
 | some a,some b=>a==b
 | _,_=>false
theorem vC (x y:Value):kEq x y=kEq y x:=by
 unfold kEq;cases iR x<;>cases iR y<;>simp [Bool.beq_comm]
theorem aEb {x y:Value} (h:kEq x y=true):∃ c,iR x=some c/\iR y=some c:=by
 unfold kEq at h;cases j:iR x with
 | none=>rw [j] at h;cases h
 | some a=>
   cases u:iR y with
   | none=>rw [j,u] at h;cases h
   | some b=>
     rw [j,u] at h;simp at h;exact ⟨a,rfl,by rw [h]⟩
theorem aMt {x y:Value} {c:TypeId × Option Nat} (h:iR x=some c) (j:iR y=some c):kEq x y=true:=by
 unfold kEq;rw [h,j];simp
theorem sB {x y z:Value} (h:kEq x y=true) (E:kEq y z=true):kEq x z=true:=by
 obtain ⟨c,A,D⟩:=aEb h;obtain ⟨d,j,u⟩:=aEb E;rw [D] at j;cases j;exact aMt A u
theorem vW {w:World} {a b:Nat} {j u:Array Value} {D y:TypeId} (E:w.heap[a]?=some (.cells j D)) (A:w.heap[b]?=some (.cells u y)) :
  (sameAddr ⟨a,0,none⟩ ⟨b,0,none⟩).run prog w=.ok (a==b) w:=by
 by_cases h:a=b
 ·subst h;simp [sameAddr]
 ·have H:(a==b)=false:=(by simpa using h);have G:w.shape? a=some (D,j.size):=(by simp [World.shape?,E]);have sb:w.shape? b=some (y,u.size):=(by simp [World.shape?,A]);simp [sameAddr,H,go_sem,noView,viewAt,mayBeOne,stringish,G,sb,E,A,World.frozen?]
theorem aFy (t:TypeId) (h:aMI t) (a b:Addr) (w:World):(Op.equal 153 (.iface t (.pointer (some a))) (.iface t (.pointer (some b)))).run prog w=(sameAddr a b).run prog w:=by
 rcases h with rfl | rfl | rfl | rfl | rfl<;>kernel_rfl
theorem aKY (t j:TypeId) (h:aGI t) (u:aGI j) (w:World):(Op.equal 153 (.iface t (.agg #[])) (.iface j (.agg #[]))).run prog w=.ok (t==j) w:=by
 rcases h with rfl | rfl | rfl | rfl | rfl<;>rcases u with rfl | rfl | rfl | rfl | rfl<;>kernel_rfl
theorem aCr (t j:TypeId) (x y:Value) (h:t≠j) (w:World):(Op.equal 153 (.iface t x) (.iface j y)).run prog w=.ok false w:=by
 unfold Op.equal Op.maxDepth;rw [show (10000:Nat)=9999+1 from rfl];generalize 9999=d;simp [Op.equalIn,go_sem,h]
theorem uX {t:TypeId} (h:aGI t) (j:aMI t):False:=by
 rcases h with rfl | rfl | rfl | rfl | rfl<;>rcases j with h | h | h | h | h<;>cases h
theorem aCW {w:World} {k k':Value} (h:NKey w k) (j:NKey w k'):(Op.equal 153 k k').run prog w=.ok (kEq k k') w:=by
 cases h with
 | leaf t h=>
   cases j with
   | leaf t' j=>rw [aKY t t' h j w];congr 1;rw [Bool.eq_iff_iff];simp [kEq,iR]
   | ptr t' b cs t'' j hb=>rw [aCr t t' _ _ (fun e=>uX (by rw [e] at h;exact h) j) w];simp [kEq,iR]
 | ptr t b cs t'' h hb=>
   cases j with
   | leaf t' j=>rw [aCr t t' _ _ (fun e=>uX j (by rw [e] at h;exact h)) w];simp [kEq,iR]
   | ptr t' b' cs' t3 j hb'=>
     by_cases e:t=t'
     ·subst e;rw [aFy t h,vW hb hb'];congr 1;rw [Bool.eq_iff_iff];simp [kEq,iR]
     ·rw [aCr t t' _ _ e];simp [kEq,iR,e]
theorem nP {w:World} {k k':Value} (h:NKey w k) (j:NKey w k'):kEq k k'=true ↔ k=k':=by
 cases h with
 | leaf t h=>
   cases j with
   | leaf t' j=>simp [kEq,iR]
   | ptr t' b cs t'' j hb=>simp [kEq,iR]
 | ptr t b cs t'' h hb=>
   cases j with
   | leaf t' j=>simp [kEq,iR]
   | ptr t' b' cs' t3 j hb'=>simp [kEq,iR]
theorem kEq_self {w:World} {k:Value} (h:NKey w k):kEq k k=true:=(nP h h).2 rfl
def dB (k:Value):List MapEntry->Nat->Option (Nat × Value)
 | [],_=>none
 | e::es,i=>if kEq k e.key then some (i,e.val) else dB k es (i+1)
theorem iE {w:World} {k:Value} (h:NKey w k):∀ (j:List MapEntry) (i:Nat),(∀ e∈j,NKey w e.key)->(Instr.findAsking 153 k j i).run prog w=.ok (dB k j i) w
 | [],i,_=>by simp [Instr.findAsking,dB]
 | e::j,i,he=>by
   have A:=aCW h (he e (List.mem_cons_self ..));have u:=iE h j (i+1) (fun x y=>he x (List.mem_cons_of_mem _ y));simp only [Instr.findAsking,dB,Sem.run_bind,A,Result.andThen_ok];cases kEq k e.key
   ·simpa using u
   ·simp
theorem lI {w:World} {k:Value} (h:NKey w k) (j:List MapEntry) (y:∀ e∈j,NKey w e.key):(Instr.findKey 153 k j).run prog w=.ok (dB k j 0) w:=by
 have u:=iE h j 0 y;unfold Instr.findKey;rw [Sem.run_bind,run_underlying underlying153,Result.andThen_ok];cases j with
 | nil=>simp [Instr.findNow,dB]
 | cons e j=>
   simp only [Instr.findNow,Instr.sameNow];exact u
theorem kD {w:World} {k:Value} (h:NKey w k) (e:Bool):(Instr.checkKey e 10000 153 k).run prog w=.ok () w:=by
 cases h with
 | leaf t h=>rcases h with rfl | rfl | rfl | rfl | rfl<;>kernel_rfl
 | ptr t b cs t' h hb=>rcases h with rfl | rfl | rfl | rfl | rfl<;>kernel_rfl
def MapIs (w:World) (b:Nat) (f:Value->Option Value) (n:Nat):Prop:=
 ∃ es clock,w.heap[b]?=some (.map es clock)/\es.size=n/\(∀ e∈es.toList,NKey w e.key)/\∀ k,(dB k es.toList 0).map (·.2)=f k
theorem fA (k:Value):∀ (h:List MapEntry) (i:Nat),dB k h i=(dB k h 0).map (fun x=>(x.1+i,x.2))
 | [],i=>by simp [dB]
 | e::h,i=>by
   simp only [dB];rw [fA k h (i+1),fA k h (0+1)];cases kEq k e.key
   ·simp only [Bool.false_eq_true,if_false,Option.map_map];congr 1
    funext x
    simp;omega
   ·simp
theorem aAW {w:World} {k:Value} : ∀ (h:List MapEntry) (e:MapEntry) (i:Nat),dB k (h++[e]) i=match dB k h i with | some x=>some x | none=>if kEq k e.key then some (i+h.length,e.val) else none
 | [],e,i=>by simp [dB]
 | d::h,e,i=>by
   simp only [List.cons_append,dB];cases kEq k d.key
   ·simp only [Bool.false_eq_true,if_false];rw [aAW (w:=w) h e (i+1)];simp only [List.length_cons];rw [show i+1+h.length=i+(h.length+1) by omega]
   ·simp
theorem mapIs_made (w:World):MapIs (w.alloc (.map #[] 0)) w.heap.size (fun _=>none) 0:=
 ⟨#[],0,heap_alloc_new _ _,rfl,by simp,fun k=>by simp [dB]⟩
theorem MapIs.run_lookup {w:World} {b n:Nat} {f:Value->Option Value} (h:MapIs w b f n) {t e:TypeId} (D:prog.underlying t=some (.map 153 e)) {z:Value} (N:(zeroValue e).run prog w=.ok z w) {k:Value} (E:NKey w k) :
  (Instr.lookup t (.map (some b)) k false).run prog w=.ok ((f k).getD z) w:=by
 obtain ⟨A,y,H,O,L,M⟩:=h;have u:=lI E A.toList L;have j:=M k;have G:=kD E A.isEmpty;cases J:dB k A.toList 0 with
 | none=>
   rw [J] at j u;simp only [Option.map_none] at j;rw [<- j];simp [Instr.lookup,run_underlying D,MapKept.run_getObj_map H,G,u,N]
 | some x=>
   rw [J] at j u;simp only [Option.map_some] at j;rw [<- j];simp [Instr.lookup,run_underlying D,MapKept.run_getObj_map H,G,u]
theorem MapIs.lt {w:World} {b n:Nat} {f:Value->Option Value} (h:MapIs w b f n):b<w.heap.size:=by
 obtain ⟨y,j,u,_⟩:=h;exact (Array.getElem?_eq_some_iff.1 u).1
theorem lN {w:World} {k k' x:Value} (J:NKey w k):∀ (l:List MapEntry) (i:Nat) (v:Value),(∀ e∈l,NKey w e.key)->dB k l 0=some (i,v)->
  (dB k' (l.modify i fun e=>{ e with key:=k,val:=x }) 0).map (·.2)=if kEq k k' then some x else (dB k' l 0).map (·.2)
 | [],i,v,_,h=>by simp [dB] at h
 | e::es,i,v,he,h=>by
   have E:=he e (List.mem_cons_self ..);simp only [dB] at h;cases A:kEq k e.key with
   | true=>
     rw [A] at h;simp only [if_true,Option.some.injEq,Prod.mk.injEq] at h;obtain ⟨rfl,_⟩:=h;have D:=(nP J E).1 A;rw [List.modify_zero_cons];simp only [dB];rw [<- D,vC k' k];cases kEq k k'<;>simp
   | false=>
     rw [A] at h;simp only [Bool.false_eq_true,if_false] at h;rw [fA] at h;cases G:dB k es 0 with
     | none=>rw [G] at h;cases h
     | some y=>
       obtain ⟨j,u⟩:=y;rw [G] at h;simp only [Option.map_some,Option.some.injEq,Prod.mk.injEq] at h;obtain ⟨L,S⟩:=h;subst L;have O:=lN (k':=k') (x:=x) J es j u (fun z N=>he z (List.mem_cons_of_mem _ N)) G;rw [show 0+1=1 from rfl,List.modify_succ_cons];simp only [dB];cases H:kEq k' e.key with
       | true=>
         have M:kEq k k'=false:=by
          rw [Bool.eq_false_iff];intro h;rw [sB h H] at A;cases A
         simp [M]
       | false=>
         simp only [Bool.false_eq_true,if_false];rw [fA k' _ (0+1),fA k' es (0+1)];simpa [Option.map_map,Function.comp_def] using O
theorem pV {w:World} {k:Value} (h:NKey w k):Instr.sameBits 10000 k k=true:=by
 rw [show (10000:Nat)=9998+1+1 from rfl];generalize 9998=d;cases h<;>simp [Instr.sameBits]
theorem xM {w:World} {k:Value} (h:NKey w k):(Instr.keyThatStays k k).run prog w=.ok k w:=by
 simp [Instr.keyThatStays,pV h]
theorem wH {w:World} {k:Value} (E:NKey w k):∀ (l:List MapEntry) (i:Nat) (v:Value),(∀ e∈l,NKey w e.key)->dB k l 0=some (i,v)->∃ e,l[i]?=some e/\e.key=k
 | [],i,v,_,h=>by simp [dB] at h
 | e::es,i,v,he,h=>by
   simp only [dB] at h;cases A:kEq k e.key with
   | true=>
     rw [A] at h;simp only [if_true,Option.some.injEq,Prod.mk.injEq] at h;obtain ⟨rfl,_⟩:=h;exact ⟨e,rfl,((nP E (he e (List.mem_cons_self ..))).1 A).symm⟩
   | false=>
     rw [A] at h;simp only [Bool.false_eq_true,if_false] at h;rw [fA] at h;cases D:dB k es 0 with
     | none=>rw [D] at h;cases h
     | some y=>
       obtain ⟨j,u⟩:=y;rw [D] at h;simp only [Option.map_some,Option.some.injEq,Prod.mk.injEq] at h;obtain ⟨G,M⟩:=h;subst G;obtain ⟨d,J,H⟩:=wH E es j u (fun z L=>he z (List.mem_cons_of_mem _ L)) D;exact ⟨d,by simpa using J,H⟩
theorem NKey.set {w:World} {b:Nat} {y:Array MapEntry} {c:Nat} (j:w.heap[b]?=some (.map y c)) (o:Obj) {v:Value} (h:NKey w v):NKey { w with heap:=w.heap.setIfInBounds b o } v:=
 h.turn fun t k e=>by
  refine (MapKept.heap_set j).2 k fun u=>?_;cases h with
  | leaf t h=>cases e
  | ptr t b' cs t' h hb'=>
    cases e;rw [u,j] at hb';cases hb'
theorem NKey.K {w w':World} {v:Value} (h:NKey w v) (j:w.grownBy w' none):NKey w' v:=by
 cases h with
 | leaf t h=>exact .leaf t h
 | ptr t b cs t' h hb=>exact .ptr t b cs t' h ((j.block b (Array.getElem?_eq_some_iff.1 hb).1 (by simp)).trans hb)
theorem MapIs.K {w w':World} {b n:Nat} {f:Value->Option Value} (h:MapIs w b f n) (y:w.grownBy w' none):MapIs w' b f n:=by
 have u:=h.lt;obtain ⟨G,j,H,A,E,J⟩:=h;exact ⟨G,j,(y.block b u (by simp)).trans H,A,fun e D=>(E e D).K y,J⟩
theorem MapIs.run_update {w:World} {b n:Nat} {f:Value->Option Value} (h:MapIs w b f n) {t e:TypeId} (ht:prog.underlying t=some (.map 153 e)) {k:Value} (J:NKey w k) (x:Value) :
  ∃ w',(Instr.mapUpdate t (.map (some b)) k x).run prog w=.ok () w'/\MapIs w' b (fun k'=>if kEq k k' then some x else f k') (if (f k).isSome then n else n+1)/\w.grownBy w' (some b):=by
 obtain ⟨L,a4,u,U,O,hl⟩:=h;have Y:=lI J L.toList O;have H:=hl k;have h3:=kD J false;have S:∀ o,w.grownBy { w with heap:=w.heap.setIfInBounds b o } (some b):=fun o=>⟨rfl,rfl,rfl,by simp,fun i _ G=>(MapKept.heap_set u).2 i (fun e=>G (by rw [e]))⟩;cases N:dB k L.toList 0 with
 | none=>
   rw [N] at H Y;simp only [Option.map_none] at H;refine ⟨_,by simp [Instr.mapUpdate,run_underlying ht,MapKept.run_getObj_map u,h3,Y,MapKept.run_setObj_map _ u];rfl,⟨_,_,(MapKept.heap_set u).1,?_,?_,?_⟩,S _⟩
   ·rw [<- H];simp [U]
   ·intro z A;rw [Array.toList_push] at A;rcases List.mem_append.1 A with A | A
    ·exact (O z A).set u _
    ·simp only [List.mem_singleton] at A;subst A;exact J.set u _
   ·intro k';rw [Array.toList_push,aAW (w:=w)];have M:=hl k';cases X:dB k' L.toList 0 with
    | none=>
      rw [X] at M;simp only [Option.map_none] at M;dsimp only;rw [<- M,vC k' k];cases kEq k k'<;>simp
    | some y=>
      rw [X] at M;simp only [Option.map_some] at M ⊢
      have e2:kEq k k'=false:=by
       rw [Bool.eq_false_iff];intro h
       have U:∀ (l:List MapEntry) (i:Nat),dB k l i=none->dB k' l i=none:=by
        intro l
        induction l with
        | nil=>intro i _;rfl
        | cons d l IH=>
          intro i G;simp only [dB] at G ⊢;cases E:kEq k d.key with
          | true=>rw [E] at G;simp at G
          | false=>
            rw [E] at G;simp only [Bool.false_eq_true,if_false] at G
            have:kEq k' d.key=false:=by
             rw [Bool.eq_false_iff];intro H;rw [sB h H] at E;cases E
            rw [this];simp only [Bool.false_eq_true,if_false];exact IH (i+1) G
       rw [U _ _ N] at X;cases X
      rw [e2];simpa using M
 | some y=>
   obtain ⟨i,v⟩:=y;rw [N] at H Y;simp only [Option.map_some] at H;obtain ⟨d,hd,a5⟩:=wH J L.toList i v O N;have Z:L[i]?=some d:=(by rw [<- Array.getElem?_toList];exact hd);refine ⟨_,by simp [Instr.mapUpdate,run_underlying ht,MapKept.run_getObj_map u,h3,Y,Z,a5,xM J,MapKept.run_setObj_map _ u];rfl,⟨_,_,(MapKept.heap_set u).1,?_,?_,?_⟩,S _⟩
   ·rw [<- H];simp [U]
   ·intro z A;rw [Array.toList_modify] at A;obtain ⟨j,D⟩:=List.mem_iff_getElem?.1 A;rw [List.getElem?_modify] at D;cases E:L.toList[j]? with
    | none=>rw [E] at D;simp at D
    | some q=>
      rw [E] at D;simp only [Option.map_eq_map,Option.map_some,Option.some.injEq] at D
      split at D
      ·subst D;exact J.set u _
      ·subst D;exact (O q (List.mem_of_getElem? E)).set u _
   ·intro k';rw [Array.toList_modify,lN J L.toList i v O N,hl k']
theorem wpList_mapUpdate_node (w:World) {ops:Array Oper} {rest:List Oper} {o:Oper} {a:Act} {Q:Exit->Act->World->Prop}
  (J:o.guard=none) (m x v:Operand) (t:TypeId) (A:o.op=Op.mapUpdate t m x v) (e:TypeId) (E:prog.underlying t=some (.map 153 e)) (b n:Nat) (f:Value->Option Value)
  (G:a.eval m=.map (some b)) (u:MapIs w b f n) (key val:Value) (L:a.eval x=key) (hv:a.eval v=val) (j:NKey w key)
  (D:∀ w',MapIs w' b (fun k'=>if kEq key k' then some val else f k') (if (f key).isSome then n else n+1)->w.grownBy w' (some b)->wpList prog ops Q rest (a.put o.dst undef) w') :
  wpList prog ops Q (o::rest) a w:=by
 refine wpList_plain J fun N y=>?_;obtain ⟨w',h,H,M⟩:=u.run_update E j val;unfold Oper.wp;simp [execOp,A,G,L,hv,h,Result.andThen];exact y _ _ (D w' H M)
def aHJ (B:Nat) (w:World) (pre:List Value):Value->Tr->Prop
 | v,.leaf p=>Rep (fun _=>False) B w v (.leaf p)
 | v,.un p x=>∃ b u,b<w.heap.size/\w.cell? ⟨b,0,none⟩=some u/\Rep (fun _=>False) B w u x/\u∈pre/\
   ((p.k=8/\v=.iface 195 (.pointer (some ⟨b,0,none⟩)))\/(p.k=7/\v=.iface 190 (.pointer (some ⟨b,0,none⟩))/\w.cell? ⟨b,1,none⟩=some (.int .i64 p.n)))
 | v,.bin p x y=>∃ b u u',b<w.heap.size/\w.cell? ⟨b,0,none⟩=some u/\w.cell? ⟨b,1,none⟩=some u'/\Rep (fun _=>False) B w u x/\Rep (fun _=>False) B w u' y/\u∈pre/\u'∈pre/\
   ((p.k=6/\v=.iface 198 (.pointer (some ⟨b,0,none⟩)))\/(p.k=9/\v=.iface 202 (.pointer (some ⟨b,0,none⟩))))
theorem aHJ.more {B:Nat} {w:World} {y j:List Value} (h:∀ v∈y,v∈j):∀ {T:Tr} {v:Value},aHJ B w y v T->aHJ B w j v T
 | .leaf _,_,e=>e
 | .un _ _,_,⟨b,u,h1,h2,h3,h4,h5⟩=>⟨b,u,h1,h2,h3,h u h4,h5⟩
 | .bin _ _ _,_,⟨b,u,u',h1,h2,h2',h3,h3',h4,h4',h5⟩=>⟨b,u,u',h1,h2,h2',h3,h3',h u h4,h u' h4',h5⟩
theorem aBX {B:Nat} {w:World} : ∀ {T:Tr} {v:Value} {l:List Value},Rep (fun _=>False) B w v T->cV w v T l->∃ M,l=M++[v]/\aHJ B w M v T
 | .leaf p,v,l,hr,hp=>⟨[],by simpa [cV] using hp,hr⟩
 | .un p x,v,l,hr,hp=>by
   simp only [Rep] at hr;simp only [cV] at hp;obtain ⟨U,u0,h3,S,G,X,h⟩:=hr;obtain ⟨t,b,u,Y,hv,L,k2,Z,O⟩:=hp
   have A:b=U:=by
    rcases h with ⟨_,h⟩ | ⟨_,h⟩<;>(rw [hv] at h;simp at h;exact h.2)
   subst A;have hu:u0=u:=(by rw [G] at L;exact Option.some.inj L);subst hu;obtain ⟨M,j⟩:=Z.last;refine ⟨Y,O,b,u0,S,G,X,by rw [j];simp,?_⟩;rcases h with ⟨h,N⟩ | ⟨h,N⟩
   ·exact .inl ⟨h,N⟩
   ·exact .inr ⟨h,N,k2 h⟩
 | .bin p x y,v,l,hr,hp=>by
   simp only [Rep] at hr;simp only [cV] at hp;obtain ⟨U,u0,J,h3,S,G,H,X,a7,h⟩:=hr;obtain ⟨t,b,u,u',Y,l2,hv,L,E,Z,a6,O⟩:=hp
   have A:b=U:=by
    rcases h with ⟨_,h⟩ | ⟨_,h⟩<;>(rw [hv] at h;simp at h;exact h.2)
   subst A;have hu:u0=u:=(by rw [G] at L;exact Option.some.inj L);have a5:J=u':=(by rw [H] at E;exact Option.some.inj E);subst hu a5;obtain ⟨M,j⟩:=Z.last;obtain ⟨b3,D⟩:=a6.last;exact ⟨Y++l2,O,b,u0,J,S,G,H,X,a7,by rw [j];simp,by rw [D];simp,h⟩
theorem kX {B:Nat} {w:World} : ∀ {T:Tr} {v:Value} {l:List Value},Rep (fun _=>False) B w v T->cV w v T l->∀ (i:Nat) (u:Value),l[i]?=some u->∃ j,aHJ B w (l.take i) u j/\Rep (fun _=>False) B w u j/\sz j<=sz T
 | .leaf p,v,l,hr,hp,i,u,hi=>by
   simp only [cV] at hp;subst hp
   match i,hi with
   | 0,hi=>
     simp at hi;subst hi;exact ⟨.leaf p,hr,hr,Nat.le_refl _⟩
 | .un p x,v,l,hr,hp,i,u,hi=>by
   obtain ⟨S,A,he⟩:=aBX hr hp;have M:=hr;simp only [Rep] at hr;simp only [cV] at hp;obtain ⟨b0,u0,h3,h4,Y,h6,h⟩:=hr;obtain ⟨t,b,u1,G,hv,X,k2,k3,D⟩:=hp
   have L:b=b0:=by
    rcases h with ⟨_,h⟩ | ⟨_,h⟩<;>(rw [hv] at h;simp at h;exact h.2)
   subst L;have hu:u0=u1:=(by rw [Y] at X;exact Option.some.inj X);subst hu;have J:S=G:=(by rw [A] at D;simpa using D);subst J;subst D
   by_cases H:i<S.length
   ·rw [List.getElem?_append_left H] at hi;obtain ⟨j,U,O,e3⟩:=kX h6 k3 i u hi;rw [List.take_append_of_le_length (by omega)];exact ⟨j,U,O,by simp only [sz];omega⟩
   ·have E:i=S.length:=by
     have:=(List.getElem?_eq_some_iff.1 hi).1;simp at this;omega
    subst E;rw [List.getElem?_append_right (Nat.le_refl _)] at hi;simp at hi;subst hi;exact ⟨.un p x,by simpa using he,M,Nat.le_refl _⟩
 | .bin p x y,v,l,hr,hp,i,u,hi=>by
   obtain ⟨S,A,he⟩:=aBX hr hp;have M:=hr;simp only [Rep] at hr;simp only [cV] at hp;obtain ⟨b0,u0,a7,h3,h4,Y,a4,h6,b5,h⟩:=hr;obtain ⟨t,b,u1,a8,G,Z,hv,X,N,k3,b4,D⟩:=hp
   have L:b=b0:=by
    rcases h with ⟨_,h⟩ | ⟨_,h⟩<;>(rw [hv] at h;simp at h;exact h.2)
   subst L;have hu:u0=u1:=(by rw [Y] at X;exact Option.some.inj X);have b3:a7=a8:=(by rw [a4] at N;exact Option.some.inj N);subst hu b3;have J:S=G++Z:=(by rw [A] at D;exact List.append_cancel_right D);subst J;subst D
   by_cases H:i<G.length
   ·rw [List.append_assoc,List.getElem?_append_left H] at hi;obtain ⟨j,U,O,e3⟩:=kX h6 k3 i u hi;rw [List.append_assoc,List.take_append_of_le_length (by omega)];exact ⟨j,U,O,by simp only [sz];omega⟩
   ·by_cases b7:i<G.length+Z.length
    ·rw [List.append_assoc,List.getElem?_append_right (by omega),List.getElem?_append_left (by omega)] at hi;obtain ⟨j,U,O,e3⟩:=kX b5 b4 (i - G.length) u hi;refine ⟨j,U.more ?_,O,by simp only [sz];omega⟩;intro z hz;rw [List.append_assoc,List.take_append];refine List.mem_append_right _ ?_;rw [List.take_append_of_le_length (by omega)];exact hz
    ·have E:i=(G++Z).length:=by
      have:=(List.getElem?_eq_some_iff.1 hi).1;simp at this ⊢;omega
     subst E;rw [List.getElem?_append_right (Nat.le_refl _)] at hi;simp at hi;subst hi;exact ⟨.bin p x y,by rw [List.take_left];exact he,M,Nat.le_refl _⟩
def Sim:Tr->Tr->Prop
 | .leaf p,.leaf q=>p.k=q.k/\(p.k=1->aH p.t=aH q.t)
 | .un p x,.un q y=>p.k=q.k/\Sim x y
 | .bin p x x',.bin q y y'=>p.k=q.k/\Sim x y/\Sim x' y'
 | _,_=>False
def flatW:Tr->Int
 | .leaf p=>if p.k=1 then aH p.t else if p.k=2 then 1 else if p.k=4\/p.k=5 then -1 else 0
 | .un _ x=>flatW x
 | .bin p x y=>if p.k=6 then (if flatW x = -1\/flatW y = -1 then -1 else flatW x+flatW y) else flatW y
theorem Sim.flatW:∀ {T u:Tr},Sim T u->flatW T=flatW u
 | .leaf p,.leaf q,h=>by
   simp only [Sim] at h;simp only [Proofs.YtgifkcpdihphlaaGreatDoor.flatW,h.1]
   by_cases j:q.k=1
   ·rw [if_pos j,if_pos j,h.2 (by rw [h.1];exact j)]
   ·rw [if_neg j,if_neg j]
 | .un _ x,.un _ y,h=>by simp only [Proofs.YtgifkcpdihphlaaGreatDoor.flatW];exact Sim.flatW h.2
 | .bin p x x',.bin q y y',h=>by
   simp only [Proofs.YtgifkcpdihphlaaGreatDoor.flatW,h.1,Sim.flatW h.2.1,Sim.flatW h.2.2]
 | .leaf _,.un _ _,h=>h.elim
 | .leaf _,.bin _ _ _,h=>h.elim
 | .un _ _,.leaf _,h=>h.elim
 | .un _ _,.bin _ _ _,h=>h.elim
 | .bin _ _ _,.leaf _,h=>h.elim
 | .bin _ _ _,.un _ _,h=>h.elim
theorem Sim.leadT:∀ {T u:Tr},Sim T u->leadT T=leadT u
 | .leaf p,.leaf q,h=>by
   simp only [Sim] at h;simp only [Proofs.YtgifkcpdihphlaaGreatDoor.leadT,h.1]
   by_cases j:q.k=1
   ·rw [if_pos j,if_pos j,h.2 (by rw [h.1];exact j)]
   ·rw [if_neg j,if_neg j]
 | .un _ x,.un _ y,h=>by simp only [Proofs.YtgifkcpdihphlaaGreatDoor.leadT];exact Sim.leadT h.2
 | .bin p x x',.bin q y y',h=>by
   simp only [Proofs.YtgifkcpdihphlaaGreatDoor.leadT,h.1,Sim.leadT h.2.1,Sim.leadT h.2.2]
 | .leaf _,.un _ _,h=>h.elim
 | .leaf _,.bin _ _ _,h=>h.elim
 | .un _ _,.leaf _,h=>h.elim
 | .un _ _,.bin _ _ _,h=>h.elim
 | .bin _ _ _,.leaf _,h=>h.elim
 | .bin _ _ _,.un _ _,h=>h.elim
theorem vP {X:Nat->Prop} {B:Nat} {w:World} : ∀ {T T':Tr} {v:Value},Rep X B w v T->Rep X B w v T'->Sim T T'
 | .leaf p,.leaf q,v,h,A=>by
   simp only [Rep] at h A;simp only [Sim];rcases h with h | h | h | h | h | ⟨h1,b,tv,O,_,_,U,_⟩<;>rcases A with A | A | A | A | A | ⟨b1,N,tv',Z,_,_,D,_⟩
   all_goals first
    | (exfalso;have:=h.2.symm.trans A.2;simp at this;done)
    | (exfalso;have:=h.2.symm.trans Z;simp at this;done)
    | (exfalso;have:=O.symm.trans A.2;simp at this;done)
    | (have hh:=h.1.trans A.1.symm;exact ⟨hh,fun e=>by rw [h.1] at e;simp at e⟩)
    | skip
   have e:=O.symm.trans Z;simp only [Value.iface.injEq,Value.pointer.injEq,Option.some.injEq,Addr.mk.injEq,and_true,true_and] at e;subst e;rw [U] at D;refine ⟨by rw [h1,b1],fun _=>?_⟩;simp at D;exact D.2
 | .un p x,.un q y,v,h,A=>by
   simp only [Rep] at h A;simp only [Sim];obtain ⟨b,u,_,_,U,h6,G⟩:=h;obtain ⟨N,S,_,_,D,H,j⟩:=A
   have e:b=N/\p.k=q.k:=by
    rcases G with ⟨G,Y⟩ | ⟨G,Y⟩<;>rcases j with ⟨j,M⟩ | ⟨j,M⟩<;>(have e:=Y.symm.trans M;simp at e)<;>exact ⟨e,by rw [G,j]⟩
   obtain ⟨e1,e2⟩:=e;subst e1;have hu:u=S:=(by rw [U] at D;exact Option.some.inj D);subst hu;exact ⟨e2,vP h6 H⟩
 | .bin p x x2,.bin q y y2,v,h,A=>by
   simp only [Rep] at h A;simp only [Sim];obtain ⟨b,u,u2,_,_,U,b2,h6,a7,G⟩:=h;obtain ⟨N,S,L,_,_,D,E,H,J,j⟩:=A
   have e:b=N/\p.k=q.k:=by
    rcases G with ⟨G,Y⟩ | ⟨G,Y⟩<;>rcases j with ⟨j,M⟩ | ⟨j,M⟩<;>(have e:=Y.symm.trans M;simp at e)<;>exact ⟨e,by rw [G,j]⟩
   obtain ⟨e1,e2⟩:=e;subst e1;have hu:u=S:=(by rw [U] at D;exact Option.some.inj D);have a9:u2=L:=(by rw [b2] at E;exact Option.some.inj E);subst hu a9;exact ⟨e2,vP h6 H,vP a7 J⟩
 | .leaf p,.un q y,v,h,A=>by
   exfalso;simp only [Rep] at h A;obtain ⟨N,S,_,_,D,H,j⟩:=A;rcases h with h | h | h | h | h | ⟨h1,b,tv,O,_⟩<;>rcases j with ⟨_,j⟩ | ⟨_,j⟩
   all_goals first
    | (have:=h.2.symm.trans j;simp at this)
    | (have:=O.symm.trans j;simp at this)
 | .leaf p,.bin q y y2,v,h,A=>by
   exfalso;simp only [Rep] at h A;obtain ⟨N,S,L,_,_,D,E,H,J,j⟩:=A;rcases h with h | h | h | h | h | ⟨h1,b,tv,O,_⟩<;>rcases j with ⟨_,j⟩ | ⟨_,j⟩
   all_goals first
    | (have:=h.2.symm.trans j;simp at this)
    | (have:=O.symm.trans j;simp at this)
 | .un q y,.leaf p,v,A,h=>by
   exfalso;simp only [Rep] at h A;obtain ⟨N,S,_,_,D,H,j⟩:=A;rcases h with h | h | h | h | h | ⟨h1,b,tv,O,_⟩<;>rcases j with ⟨_,j⟩ | ⟨_,j⟩
   all_goals first
    | (have:=h.2.symm.trans j;simp at this)
    | (have:=O.symm.trans j;simp at this)
 | .bin q y y2,.leaf p,v,A,h=>by
   exfalso;simp only [Rep] at h A;obtain ⟨N,S,L,_,_,D,E,H,J,j⟩:=A;rcases h with h | h | h | h | h | ⟨h1,b,tv,O,_⟩<;>rcases j with ⟨_,j⟩ | ⟨_,j⟩
   all_goals first
    | (have:=h.2.symm.trans j;simp at this)
    | (have:=O.symm.trans j;simp at this)
 | .un p x,.bin q y y2,v,h,A=>by
   exfalso;simp only [Rep] at h A;obtain ⟨b,u,_,_,U,h6,G⟩:=h;obtain ⟨N,S,L,_,_,D,E,H,J,j⟩:=A;rcases G with ⟨_,G⟩ | ⟨_,G⟩<;>rcases j with ⟨_,j⟩ | ⟨_,j⟩<;>(have:=G.symm.trans j;simp at this)
 | .bin q y y2,.un p x,v,A,h=>by
   exfalso;simp only [Rep] at h A;obtain ⟨b,u,_,_,U,h6,G⟩:=h;obtain ⟨N,S,L,_,_,D,E,H,J,j⟩:=A;rcases G with ⟨_,G⟩ | ⟨_,G⟩<;>rcases j with ⟨_,j⟩ | ⟨_,j⟩<;>(have:=G.symm.trans j;simp at this)
theorem lJ (h:∀ t,-1<=aH t/\aH t<=t.length):∀ (T:Tr),-1<=flatW T/\flatW T<=sz T
 | .leaf p=>by
   have:=h p.t;simp only [flatW,sz]
   split
   ·omega
   ·split
    ·omega
    ·split<;>omega
 | .un p x=>by
   have:=lJ h x;simp only [flatW,sz];omega
 | .bin p x y=>by
   have u:=lJ h x;have j:=lJ h y;simp only [flatW,sz]
   split
   ·split<;>omega
   ·omega
theorem jG {B:Nat} {w:World} {l:List Value} (E:lH (fun _=>False) w l) {v:Value} (j:v∈l) {T:Tr} (h:Rep (fun _=>False) B w v T):NKey w v:=by
 cases T with
 | leaf p=>
   simp only [Rep] at h;rcases h with h | h | h | h | h | ⟨N,b,tv,J,_,_,L,_⟩
   ·rw [h.2];exact .leaf _ (.inl rfl)
   ·rw [h.2];exact .leaf _ (.inr (.inl rfl))
   ·rw [h.2];exact .leaf _ (.inr (.inr (.inl rfl)))
   ·rw [h.2];exact .leaf _ (.inr (.inr (.inr (.inl rfl))))
   ·rw [h.2];exact .leaf _ (.inr (.inr (.inr (.inr rfl))))
   ·rw [J];exact .ptr _ b _ _ (.inl rfl) L
 | un p x=>
   simp only [Rep] at h;obtain ⟨b,u,_,_,_,_,A | A⟩:=h
   ·rw [A.2] at j ⊢;obtain ⟨_,G,H,D⟩:=E.lt _ _ j;exact .ptr _ b _ _ (.inr (.inl rfl)) D
   ·rw [A.2] at j ⊢;obtain ⟨_,G,H,D⟩:=E.lt _ _ j;exact .ptr _ b _ _ (.inr (.inr (.inl rfl))) D
 | bin p x y=>
   simp only [Rep] at h;obtain ⟨b,u,M,_,_,_,_,_,_,A | A⟩:=h
   ·rw [A.2] at j ⊢;obtain ⟨_,G,H,D⟩:=E.lt _ _ j;exact .ptr _ b _ _ (.inr (.inr (.inr (.inl rfl)))) D
   ·rw [A.2] at j ⊢;obtain ⟨_,G,H,D⟩:=E.lt _ _ j;exact .ptr _ b _ _ (.inr (.inr (.inr (.inr rfl)))) D
end Go.Proofs.YtgifkcpdihphlaaGreatDoor
namespace Go.Proofs.YtgifkcpdihphlaaGreatDoor
open Tryz
open Go.RowKit Go.Shelf
section
variable {F:Fence} {n m:Nat} {P:Program}
end
end Go.Proofs.YtgifkcpdihphlaaGreatDoor
namespace Go.Proofs.YtgifkcpdihphlaaGreatDoor
open Tryz
open Go.RowKit
abbrev bF (T C:TypeId) (v z:Value):Prop:=∀ w:World,(Instr.typeAssert (.iface T v) 153 C true).run prog w=.ok (.tuple #[z,.bool false]) w
abbrev tI (T C:TypeId) (v:Value):Prop:=∀ w:World,(Instr.typeAssert (.iface T v) 153 C true).run prog w=.ok (.tuple #[v,.bool true]) w
theorem oQ:tI 182 182 (.agg #[])/\bF 182 187 (.agg #[]) (.pointer none)/\bF 182 183 (.agg #[]) (.agg #[])/\bF 182 184 (.agg #[]) (.agg #[])/\bF 182 185 (.agg #[]) (.agg #[])/\bF 182 186 (.agg #[]) (.agg #[])/\bF 182 195 (.agg #[]) (.pointer none)/\bF 182 190 (.agg #[]) (.pointer none)/\bF 182 198 (.agg #[]) (.pointer none)/\bF 182 202 (.agg #[]) (.pointer none):=
 ⟨fun w=>by kernel_rfl,fun w=>by kernel_rfl,fun w=>by kernel_rfl,fun w=>by kernel_rfl,fun w=>by kernel_rfl,fun w=>by kernel_rfl,fun w=>by kernel_rfl,fun w=>by kernel_rfl,fun w=>by kernel_rfl,fun w=>by kernel_rfl⟩
theorem qS (v:Value):bF 187 182 v (.agg #[])/\tI 187 187 v/\bF 187 183 v (.agg #[])/\bF 187 184 v (.agg #[])/\bF 187 185 v (.agg #[])/\bF 187 186 v (.agg #[])/\bF 187 195 v (.pointer none)/\bF 187 190 v (.pointer none)/\bF 187 198 v (.pointer none)/\bF 187 202 v (.pointer none):=
 ⟨fun w=>by kernel_rfl,fun w=>by kernel_rfl,fun w=>by kernel_rfl,fun w=>by kernel_rfl,fun w=>by kernel_rfl,fun w=>by kernel_rfl,fun w=>by kernel_rfl,fun w=>by kernel_rfl,fun w=>by kernel_rfl,fun w=>by kernel_rfl⟩
theorem rK:bF 183 182 (.agg #[]) (.agg #[])/\bF 183 187 (.agg #[]) (.pointer none)/\tI 183 183 (.agg #[])/\bF 183 184 (.agg #[]) (.agg #[])/\bF 183 185 (.agg #[]) (.agg #[])/\bF 183 186 (.agg #[]) (.agg #[])/\bF 183 195 (.agg #[]) (.pointer none)/\bF 183 190 (.agg #[]) (.pointer none)/\bF 183 198 (.agg #[]) (.pointer none)/\bF 183 202 (.agg #[]) (.pointer none):=
 ⟨fun w=>by kernel_rfl,fun w=>by kernel_rfl,fun w=>by kernel_rfl,fun w=>by kernel_rfl,fun w=>by kernel_rfl,fun w=>by kernel_rfl,fun w=>by kernel_rfl,fun w=>by kernel_rfl,fun w=>by kernel_rfl,fun w=>by kernel_rfl⟩
theorem rR:bF 184 182 (.agg #[]) (.agg #[])/\bF 184 187 (.agg #[]) (.pointer none)/\bF 184 183 (.agg #[]) (.agg #[])/\tI 184 184 (.agg #[])/\bF 184 185 (.agg #[]) (.agg #[])/\bF 184 186 (.agg #[]) (.agg #[])/\bF 184 195 (.agg #[]) (.pointer none)/\bF 184 190 (.agg #[]) (.pointer none)/\bF 184 198 (.agg #[]) (.pointer none)/\bF 184 202 (.agg #[]) (.pointer none):=
 ⟨fun w=>by kernel_rfl,fun w=>by kernel_rfl,fun w=>by kernel_rfl,fun w=>by kernel_rfl,fun w=>by kernel_rfl,fun w=>by kernel_rfl,fun w=>by kernel_rfl,fun w=>by kernel_rfl,fun w=>by kernel_rfl,fun w=>by kernel_rfl⟩
theorem vV:bF 185 182 (.agg #[]) (.agg #[])/\bF 185 187 (.agg #[]) (.pointer none)/\bF 185 183 (.agg #[]) (.agg #[])/\bF 185 184 (.agg #[]) (.agg #[])/\tI 185 185 (.agg #[])/\bF 185 186 (.agg #[]) (.agg #[])/\bF 185 195 (.agg #[]) (.pointer none)/\bF 185 190 (.agg #[]) (.pointer none)/\bF 185 198 (.agg #[]) (.pointer none)/\bF 185 202 (.agg #[]) (.pointer none):=
 ⟨fun w=>by kernel_rfl,fun w=>by kernel_rfl,fun w=>by kernel_rfl,fun w=>by kernel_rfl,fun w=>by kernel_rfl,fun w=>by kernel_rfl,fun w=>by kernel_rfl,fun w=>by kernel_rfl,fun w=>by kernel_rfl,fun w=>by kernel_rfl⟩
theorem yS:bF 186 182 (.agg #[]) (.agg #[])/\bF 186 187 (.agg #[]) (.pointer none)/\bF 186 183 (.agg #[]) (.agg #[])/\bF 186 184 (.agg #[]) (.agg #[])/\bF 186 185 (.agg #[]) (.agg #[])/\tI 186 186 (.agg #[])/\bF 186 195 (.agg #[]) (.pointer none)/\bF 186 190 (.agg #[]) (.pointer none)/\bF 186 198 (.agg #[]) (.pointer none)/\bF 186 202 (.agg #[]) (.pointer none):=
 ⟨fun w=>by kernel_rfl,fun w=>by kernel_rfl,fun w=>by kernel_rfl,fun w=>by kernel_rfl,fun w=>by kernel_rfl,fun w=>by kernel_rfl,fun w=>by kernel_rfl,fun w=>by kernel_rfl,fun w=>by kernel_rfl,fun w=>by kernel_rfl⟩
theorem pE (v:Value):bF 195 182 v (.agg #[])/\bF 195 187 v (.pointer none)/\bF 195 183 v (.agg #[])/\bF 195 184 v (.agg #[])/\bF 195 185 v (.agg #[])/\bF 195 186 v (.agg #[])/\tI 195 195 v/\bF 195 190 v (.pointer none)/\bF 195 198 v (.pointer none)/\bF 195 202 v (.pointer none):=
 ⟨fun w=>by kernel_rfl,fun w=>by kernel_rfl,fun w=>by kernel_rfl,fun w=>by kernel_rfl,fun w=>by kernel_rfl,fun w=>by kernel_rfl,fun w=>by kernel_rfl,fun w=>by kernel_rfl,fun w=>by kernel_rfl,fun w=>by kernel_rfl⟩
theorem rA (v:Value):bF 190 182 v (.agg #[])/\bF 190 187 v (.pointer none)/\bF 190 183 v (.agg #[])/\bF 190 184 v (.agg #[])/\bF 190 185 v (.agg #[])/\bF 190 186 v (.agg #[])/\bF 190 195 v (.pointer none)/\tI 190 190 v/\bF 190 198 v (.pointer none)/\bF 190 202 v (.pointer none):=
 ⟨fun w=>by kernel_rfl,fun w=>by kernel_rfl,fun w=>by kernel_rfl,fun w=>by kernel_rfl,fun w=>by kernel_rfl,fun w=>by kernel_rfl,fun w=>by kernel_rfl,fun w=>by kernel_rfl,fun w=>by kernel_rfl,fun w=>by kernel_rfl⟩
theorem vK (v:Value):bF 198 182 v (.agg #[])/\bF 198 187 v (.pointer none)/\bF 198 183 v (.agg #[])/\bF 198 184 v (.agg #[])/\bF 198 185 v (.agg #[])/\bF 198 186 v (.agg #[])/\bF 198 195 v (.pointer none)/\bF 198 190 v (.pointer none)/\tI 198 198 v/\bF 198 202 v (.pointer none):=
 ⟨fun w=>by kernel_rfl,fun w=>by kernel_rfl,fun w=>by kernel_rfl,fun w=>by kernel_rfl,fun w=>by kernel_rfl,fun w=>by kernel_rfl,fun w=>by kernel_rfl,fun w=>by kernel_rfl,fun w=>by kernel_rfl,fun w=>by kernel_rfl⟩
theorem vE (v:Value):bF 202 182 v (.agg #[])/\bF 202 187 v (.pointer none)/\bF 202 183 v (.agg #[])/\bF 202 184 v (.agg #[])/\bF 202 185 v (.agg #[])/\bF 202 186 v (.agg #[])/\bF 202 195 v (.pointer none)/\bF 202 190 v (.pointer none)/\bF 202 198 v (.pointer none)/\tI 202 202 v:=
 ⟨fun w=>by kernel_rfl,fun w=>by kernel_rfl,fun w=>by kernel_rfl,fun w=>by kernel_rfl,fun w=>by kernel_rfl,fun w=>by kernel_rfl,fun w=>by kernel_rfl,fun w=>by kernel_rfl,fun w=>by kernel_rfl,fun w=>by kernel_rfl⟩
end Go.Proofs.YtgifkcpdihphlaaGreatDoor
