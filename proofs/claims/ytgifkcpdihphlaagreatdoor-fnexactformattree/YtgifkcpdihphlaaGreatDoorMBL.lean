import Derived.Test.YtgifkcpdihphlaaGreatDoorMBK
set_option maxHeartbeats 16000000
set_option maxRecDepth 100000
namespace Go.Proofs.YtgifkcpdihphlaaGreatDoor.P
open Tryz
open Go.RowKit Go.Proofs.YtgifkcpdihphlaaGreatDoor
inductive NKey (w:World):Value->Prop
 | ptr (b:Nat) (cs:Array Value) (t':TypeId) (hb:w.heap[b]?=some (.cells cs t')):NKey w (.pointer (some ⟨b,0,none⟩))
theorem aFy (a b:Addr) (w:World):(Op.equal 195 (.pointer (some a)) (.pointer (some b))).run prog w=(sameAddr a b).run prog w:=by kernel_rfl
theorem aCW {w:World} {k k':Value} (h:NKey w k) (j:NKey w k'):(Op.equal 195 k k').run prog w=.ok (kEq k k') w:=by
 cases h with
 | ptr b cs t hb=>
   cases j with
   | ptr b' cs' t' hb'=>
     rw [aFy,vW hb hb'];congr 1
theorem nP {w:World} {k k':Value} (h:NKey w k) (j:NKey w k'):kEq k k'=true ↔ k=k':=by
 cases h with
 | ptr b cs t hb=>
   cases j with
   | ptr b' cs' t' hb'=>simp [kEq,iR]
theorem kEq_self {w:World} {k:Value} (h:NKey w k):kEq k k=true:=(nP h h).2 rfl
theorem iE {w:World} {k:Value} (h:NKey w k):∀ (j:List MapEntry) (i:Nat),(∀ e∈j,NKey w e.key)->(Instr.findAsking 195 k j i).run prog w=.ok (dB k j i) w
 | [],i,_=>by simp [Instr.findAsking,dB]
 | e::j,i,he=>by
   have A:=aCW h (he e (List.mem_cons_self ..));have u:=iE h j (i+1) (fun x y=>he x (List.mem_cons_of_mem _ y));simp only [Instr.findAsking,dB,Sem.run_bind,A,Result.andThen_ok];cases kEq k e.key
   ·simpa using u
   ·simp
theorem lI {w:World} {k:Value} (h:NKey w k) (j:List MapEntry) (y:∀ e∈j,NKey w e.key):(Instr.findKey 195 k j).run prog w=.ok (dB k j 0) w:=by
 have u:=iE h j 0 y;unfold Instr.findKey;rw [Sem.run_bind,run_underlying underlying195,Result.andThen_ok];cases j with
 | nil=>simp [Instr.findNow,dB]
 | cons e j=>
   simp only [Instr.findNow,Instr.sameNow];exact u
theorem kD {w:World} {k:Value} (h:NKey w k) (e:Bool):(Instr.checkKey e 10000 195 k).run prog w=.ok () w:=by
 cases h with
 | ptr b cs t' hb=>kernel_rfl
def MapIs (w:World) (b:Nat) (f:Value->Option Value) (n:Nat):Prop:=
 ∃ es clock,w.heap[b]?=some (.map es clock)/\es.size=n/\(∀ e∈es.toList,NKey w e.key)/\∀ k,(dB k es.toList 0).map (·.2)=f k
theorem mapIs_made (w:World):MapIs (w.alloc (.map #[] 0)) w.heap.size (fun _=>none) 0:=
 ⟨#[],0,heap_alloc_new _ _,rfl,by simp,fun k=>by simp [dB]⟩
theorem MapIs.run_lookup {w:World} {b n:Nat} {f:Value->Option Value} (h:MapIs w b f n) {t e:TypeId} (D:prog.underlying t=some (.map 195 e)) {z:Value} (N:(zeroValue e).run prog w=.ok z w) {k:Value} (E:NKey w k) :
  (Instr.lookup t (.map (some b)) k false).run prog w=.ok ((f k).getD z) w:=by
 obtain ⟨A,y,H,O,L,M⟩:=h;have u:=lI E A.toList L;have j:=M k;have G:=kD E A.isEmpty;cases J:dB k A.toList 0 with
 | none=>
   rw [J] at j u;simp only [Option.map_none] at j;rw [<- j];simp [Instr.lookup,run_underlying D,MapKept.run_getObj_map H,G,u,N]
 | some x=>
   rw [J] at j u;simp only [Option.map_some] at j;rw [<- j];simp [Instr.lookup,run_underlying D,MapKept.run_getObj_map H,G,u]
theorem MapIs.lt {w:World} {b n:Nat} {f:Value->Option Value} (h:MapIs w b f n):b<w.heap.size:=by
 obtain ⟨y,j,u,_⟩:=h;exact (Array.getElem?_eq_some_iff.1 u).1
theorem lN {w:World} {k k' x:Value} (J:NKey w k):∀ (l:List MapEntry) (i:Nat) (v:Value),(∀ e∈l,NKey w e.key)->dB k l 0=some (i,v)->
  (dB k' (l.modify i fun e=>{ e with key:=k,val:=x }) 0).map (·.2)=if kEq k k' then some x else (dB k' l 0).map (·.2)
 | [],i,v,_,h=>by simp [dB] at h
 | e::es,i,v,he,h=>by
   have E:=he e (List.mem_cons_self ..);simp only [dB] at h;cases A:kEq k e.key with
   | true=>
     rw [A] at h;simp only [if_true,Option.some.injEq,Prod.mk.injEq] at h;obtain ⟨rfl,_⟩:=h;have D:=(nP J E).1 A;rw [List.modify_zero_cons];simp only [dB];rw [<- D,vC k' k];cases kEq k k'<;>simp
   | false=>
     rw [A] at h;simp only [Bool.false_eq_true,if_false] at h;rw [fA] at h;cases G:dB k es 0 with
     | none=>rw [G] at h;cases h
     | some y=>
       obtain ⟨j,u⟩:=y;rw [G] at h;simp only [Option.map_some,Option.some.injEq,Prod.mk.injEq] at h;obtain ⟨L,S⟩:=h;subst L;have O:=lN (k':=k') (x:=x) J es j u (fun z N=>he z (List.mem_cons_of_mem _ N)) G;rw [show 0+1=1 from rfl,List.modify_succ_cons];simp only [dB];cases H:kEq k' e.key with
       | true=>
         have M:kEq k k'=false:=by
          rw [Bool.eq_false_iff];intro h;rw [sB h H] at A;cases A
         simp [M]
       | false=>
         simp only [Bool.false_eq_true,if_false];rw [fA k' _ (0+1),fA k' es (0+1)];simpa [Option.map_map,Function.comp_def] using O
theorem pV {w:World} {k:Value} (h:NKey w k):Instr.sameBits 10000 k k=true:=by
 rw [show (10000:Nat)=9998+1+1 from rfl];generalize 9998=d;cases h<;>simp [Instr.sameBits]
theorem xM {w:World} {k:Value} (h:NKey w k):(Instr.keyThatStays k k).run prog w=.ok k w:=by
 simp [Instr.keyThatStays,pV h]
theorem wH {w:World} {k:Value} (E:NKey w k):∀ (l:List MapEntry) (i:Nat) (v:Value),(∀ e∈l,NKey w e.key)->dB k l 0=some (i,v)->∃ e,l[i]?=some e/\e.key=k
 | [],i,v,_,h=>by simp [dB] at h
 | e::es,i,v,he,h=>by
   simp only [dB] at h;cases A:kEq k e.key with
   | true=>
     rw [A] at h;simp only [if_true,Option.some.injEq,Prod.mk.injEq] at h;obtain ⟨rfl,_⟩:=h;exact ⟨e,rfl,((nP E (he e (List.mem_cons_self ..))).1 A).symm⟩
   | false=>
     rw [A] at h;simp only [Bool.false_eq_true,if_false] at h;rw [fA] at h;cases D:dB k es 0 with
     | none=>rw [D] at h;cases h
     | some y=>
       obtain ⟨j,u⟩:=y;rw [D] at h;simp only [Option.map_some,Option.some.injEq,Prod.mk.injEq] at h;obtain ⟨G,M⟩:=h;subst G;obtain ⟨d,J,H⟩:=wH E es j u (fun z L=>he z (List.mem_cons_of_mem _ L)) D;exact ⟨d,by simpa using J,H⟩
theorem NKey.set {w:World} {b:Nat} {y:Array MapEntry} {c:Nat} (j:w.heap[b]?=some (.map y c)) (o:Obj) {v:Value} (h:NKey w v):NKey { w with heap:=w.heap.setIfInBounds b o } v:=by
 cases h with
 | ptr b' cs t' hb'=>
   refine .ptr b' cs t' (((MapKept.heap_set j).2 b' fun u=>?_).trans hb');rw [u,j] at hb';cases hb'
theorem NKey.K {w w':World} {v:Value} (h:NKey w v) (j:w.grownBy w' none):NKey w' v:=by
 cases h with
 | ptr b cs t' hb=>exact .ptr b cs t' ((j.block b (Array.getElem?_eq_some_iff.1 hb).1 (by simp)).trans hb)
theorem MapIs.K {w w':World} {b n:Nat} {f:Value->Option Value} (h:MapIs w b f n) (y:w.grownBy w' none):MapIs w' b f n:=by
 have u:=h.lt;obtain ⟨G,j,H,A,E,J⟩:=h;exact ⟨G,j,(y.block b u (by simp)).trans H,A,fun e D=>(E e D).K y,J⟩
theorem MapIs.run_update {w:World} {b n:Nat} {f:Value->Option Value} (h:MapIs w b f n) {t e:TypeId} (ht:prog.underlying t=some (.map 195 e)) {k:Value} (J:NKey w k) (x:Value) :
  ∃ w',(Instr.mapUpdate t (.map (some b)) k x).run prog w=.ok () w'/\MapIs w' b (fun k'=>if kEq k k' then some x else f k') (if (f k).isSome then n else n+1)/\w.grownBy w' (some b):=by
 obtain ⟨L,a4,u,U,O,hl⟩:=h;have Y:=lI J L.toList O;have H:=hl k;have h3:=kD J false;have S:∀ o,w.grownBy { w with heap:=w.heap.setIfInBounds b o } (some b):=fun o=>⟨rfl,rfl,rfl,by simp,fun i _ G=>(MapKept.heap_set u).2 i (fun e=>G (by rw [e]))⟩;cases N:dB k L.toList 0 with
 | none=>
   rw [N] at H Y;simp only [Option.map_none] at H;refine ⟨_,by simp [Instr.mapUpdate,run_underlying ht,MapKept.run_getObj_map u,h3,Y,MapKept.run_setObj_map _ u];rfl,⟨_,_,(MapKept.heap_set u).1,?_,?_,?_⟩,S _⟩
   ·rw [<- H];simp [U]
   ·intro z A;rw [Array.toList_push] at A;rcases List.mem_append.1 A with A | A
    ·exact (O z A).set u _
    ·simp only [List.mem_singleton] at A;subst A;exact J.set u _
   ·intro k';rw [Array.toList_push,aAW (w:=w)];have M:=hl k';cases X:dB k' L.toList 0 with
    | none=>
      rw [X] at M;simp only [Option.map_none] at M;dsimp only;rw [<- M,vC k' k];cases kEq k k'<;>simp
    | some y=>
      rw [X] at M;simp only [Option.map_some] at M ⊢
      have e2:kEq k k'=false:=by
       rw [Bool.eq_false_iff];intro h
       have U:∀ (l:List MapEntry) (i:Nat),dB k l i=none->dB k' l i=none:=by
        intro l
        induction l with
        | nil=>intro i _;rfl
        | cons d l IH=>
          intro i G;simp only [dB] at G ⊢;cases E:kEq k d.key with
          | true=>rw [E] at G;simp at G
          | false=>
            rw [E] at G;simp only [Bool.false_eq_true,if_false] at G
            have:kEq k' d.key=false:=by
             rw [Bool.eq_false_iff];intro H;rw [sB h H] at E;cases E
            rw [this];simp only [Bool.false_eq_true,if_false];exact IH (i+1) G
       rw [U _ _ N] at X;cases X
      rw [e2];simpa using M
 | some y=>
   obtain ⟨i,v⟩:=y;rw [N] at H Y;simp only [Option.map_some] at H;obtain ⟨d,hd,a5⟩:=wH J L.toList i v O N;have Z:L[i]?=some d:=(by rw [<- Array.getElem?_toList];exact hd);refine ⟨_,by simp [Instr.mapUpdate,run_underlying ht,MapKept.run_getObj_map u,h3,Y,Z,a5,xM J,MapKept.run_setObj_map _ u];rfl,⟨_,_,(MapKept.heap_set u).1,?_,?_,?_⟩,S _⟩
   ·rw [<- H];simp [U]
   ·intro z A;rw [Array.toList_modify] at A;obtain ⟨j,D⟩:=List.mem_iff_getElem?.1 A;rw [List.getElem?_modify] at D;cases E:L.toList[j]? with
    | none=>rw [E] at D;simp at D
    | some q=>
      rw [E] at D;simp only [Option.map_eq_map,Option.map_some,Option.some.injEq] at D
      split at D
      ·subst D;exact J.set u _
      ·subst D;exact (O q (List.mem_of_getElem? E)).set u _
   ·intro k';rw [Array.toList_modify,lN J L.toList i v O N,hl k']
theorem wpList_mapUpdate_node (w:World) {ops:Array Oper} {rest:List Oper} {o:Oper} {a:Act} {Q:Exit->Act->World->Prop}
  (J:o.guard=none) (m x v:Operand) (t:TypeId) (A:o.op=Op.mapUpdate t m x v) (e:TypeId) (E:prog.underlying t=some (.map 195 e)) (b n:Nat) (f:Value->Option Value)
  (G:a.eval m=.map (some b)) (u:MapIs w b f n) (key val:Value) (L:a.eval x=key) (hv:a.eval v=val) (j:NKey w key)
  (D:∀ w',MapIs w' b (fun k'=>if kEq key k' then some val else f k') (if (f key).isSome then n else n+1)->w.grownBy w' (some b)->wpList prog ops Q rest (a.put o.dst undef) w') :
  wpList prog ops Q (o::rest) a w:=by
 refine wpList_plain J fun N y=>?_;obtain ⟨w',h,H,M⟩:=u.run_update E j val;unfold Oper.wp;simp [execOp,A,G,L,hv,h,Result.andThen];exact y _ _ (D w' H M)
theorem MapIs.run_len {w:World} {b n:Nat} {f:Value->Option Value} (h:MapIs w b f n) {t e:TypeId} (u:prog.underlying t=some (.map 195 e)) (D:TypeId):(Builtin.len_ #[t] D #[.map (some b)]).run prog w=.ok (.int .i64 (n:Int)) w:=by
 obtain ⟨G,j,A,y,E,H⟩:=h;simp [Builtin.len_,run_underlying u,MapKept.run_getObj_map A,goInt,Result.andThen,y]
end Go.Proofs.YtgifkcpdihphlaaGreatDoor.P
namespace Go.Proofs.YtgifkcpdihphlaaGreatDoor
open Tryz
open Go.RowKit
theorem aK1 {p:Prop} (h:p):Hid p:=h
def uG (b:Nat):Value:=.iface 195 (.pointer (some ⟨b,0,none⟩))
def isG:Value->Bool
 | .iface t _=>t==195
 | _=>false
def gV (l:List Value):Nat:=(l.filter isG).length
theorem aG8 (l:List Value) (v:Value):gV (l++[v])=gV l+if isG v then 1 else 0:=by
 unfold gV;rw [List.filter_append,List.length_append];cases h:isG v<;>simp [h]
theorem aDd (l:List Value):gV l<=l.length:=List.length_filter_le _ _
structure aFf (l:List Value) (k:Nat) (f:Value->Option Value):Prop where
 at_:∀ i b,i<k->l[i]?=some (uG b)->f (.pointer (some ⟨b,0,none⟩))=some (.int .i64 (gV (l.take i):Int))
 only:∀ b,f (.pointer (some ⟨b,0,none⟩))≠none->uG b∈l.take k
theorem wZ (B:Nat) (nv u0:Value) (T0:Tr) (l:List Value) (w:World) (M:w.ownsRow B 153 1 nv l.length l) (hr:Rep (fun _=>False) B w u0 T0) (hp:cV w u0 T0 l) (ho:lH (fun _=>False) w l) :
  Calls prog 93 #[nv] w fun e w'=>∃ f,e=.returned (.map (some w.heap.size))/\P.MapIs w' w.heap.size f (gV l)/\aFf l l.length f/\w.grownBy w' none:=by
 obtain ⟨a,cap,d1,g7,d2⟩:=bD M;subst d1;unfold maxLen at d2;have HR:Hid (w.ownsRow B 153 1 (.slice a l.length cap) l.length l):=M;have c8:Hid (Rep (fun _=>False) B w u0 T0):=hr;have c3:Hid (cV w u0 T0 l):=hp;have b0:Hid (lH (fun _=>False) w l):=ho;clear M hr hp ho;have h6:(Instr.makeMap 103 none).run prog w=.ok (.map (some w.heap.size)) (w.alloc (.map #[] 0)):=run_makeMap _ _
 go_enter func93,ntmps93
 go_wp2
 go_loopw [11] (fun i wr=>∃ (k:Nat) (f:Value->Option Value),k<=l.length/\i=.int .i64 k/\P.MapIs wr w.heap.size f (gV (l.take k))/\Hid (aFf l k f)/\w.grownBy wr none) (fun i _=>l.length - (intOf i).toNat)
 case atStart=>exact ⟨0,_,Nat.zero_le _,rfl,P.mapIs_made w,⟨fun i b h=>by omega,fun b h=>absurd rfl h⟩,gWA⟩
 case round=>
  obtain ⟨k,f,hk,rfl,X,S,hg⟩:=hrel
  by_cases b4:k<l.length
  ·obtain ⟨v,hv⟩:∃ v,l[k]?=some v:=⟨_,List.getElem?_eq_getElem b4⟩;obtain ⟨T,he,D,g4⟩:=kX c8.out c3.out k v hv;have U:v∈l:=List.mem_of_getElem? hv;have G:l.take (k+1)=l.take k++[v]:=(by rw [List.take_add_one,hv];rfl);have E:=aG8 (l.take k) v;rw [<- G] at E;have c2:=aDd (l.take k);rw [List.length_take] at c2;rcases HR.out.2 with ⟨_,h0⟩ | ⟨g,cp,g9,d0,h2,c7,g3,h9,c0,c1⟩
   ·omega
   cases d0;have a5:=World.ownsRow.cellAt HR.out k (by omega);rw [hv] at a5;have m0:=hg.cell a5 (by simp);clear a5 c7 c0 c1;have HM:=aK1 X;have HG:=aK1 hg
   by_cases A:isG v=true
   ·obtain ⟨b,N⟩:∃ b,v=uG b:=by
     cases T with
     | leaf p=>
       exfalso;simp only [Rep] at D;rcases D with h | h | h | h | h | ⟨_,b,tv,h,_⟩
       ·rw [h.2] at A;simp [isG] at A
       ·rw [h.2] at A;simp [isG] at A
       ·rw [h.2] at A;simp [isG] at A
       ·rw [h.2] at A;simp [isG] at A
       ·rw [h.2] at A;simp [isG] at A
       ·rw [h] at A;simp [isG] at A
     | un p x=>
       simp only [Rep] at D;obtain ⟨b,u,_,_,_,_,h | h⟩:=D
       ·exact ⟨b,h.2⟩
       ·rw [h.2] at A;simp [isG] at A
     | bin p x y=>
       exfalso;simp only [Rep] at D;obtain ⟨b,u,u',_,_,_,_,_,_,h | h⟩:=D
       ·rw [h.2] at A;simp [isG] at A
       ·rw [h.2] at A;simp [isG] at A
    have O:uG b ∉ l.take k:=by
     intro hm;have c9:=b0.out.nd;obtain ⟨i,hi⟩:=List.mem_iff_getElem?.1 hm;have L:i<k:=(by have:=(List.getElem?_eq_some_iff.1 hi).1;simp at this;omega);rw [List.getElem?_take_of_lt L] at hi;have:=List.pairwise_iff_getElem.1 c9 i k (by omega) b4 L;have e1:l[i]'(by omega)=uG b:=(List.getElem?_eq_some_iff.1 hi).2;have e2:l[k]=uG b:=(by rw [<- N];exact (List.getElem?_eq_some_iff.1 hv).2);exact this _ b e2 (by rw [e1,e2])
    have b3:f (.pointer (some ⟨b,0,none⟩))=none:=by
     cases hx:f (.pointer (some ⟨b,0,none⟩)) with
     | none=>rfl
     | some y=>exact absurd (S.out.only b (by rw [hx];simp)) O
    have Z:P.NKey wr (.pointer (some ⟨b,0,none⟩)):=by
     rw [N] at U;obtain ⟨_,cs,t',hb⟩:=b0.out.lt _ _ U;exact (P.NKey.ptr b cs t' hb).K hg
    have c4:=aK1 Z
    have H:Hid (aFf l (k+1) (fun k'=>if kEq (.pointer (some ⟨b,0,none⟩)) k' then some (.int .i64 (gV (l.take k):Int)) else f k')):=by
     refine ⟨fun i c hi J=>?_,fun c J=>?_⟩
     ·by_cases e:i=k
      ·subst e;rw [hv,N] at J;have a6:b=c:=(by simpa [uG] using J);subst a6;rw [if_pos (P.kEq_self Z)]
      ·have L:i<k:=by omega
       have b9:b≠c:=by
        intro a6;subst a6;refine O (List.mem_iff_getElem?.2 ⟨i,?_⟩);rw [List.getElem?_take_of_lt L];exact J
       rw [if_neg (by simp [kEq,iR,b9])];exact S.out.at_ i c L J
     ·rw [G]
      by_cases e:b=c
      ·subst e;rw [N];exact List.mem_append_right _ (by simp)
      ·rw [if_neg (by simp [kEq,iR,e])] at J;exact List.mem_append_left _ (S.out.only c J)
    have g2:=X.run_len underlying103 3
    have Y:(if (f (.pointer (some ⟨b,0,none⟩))).isSome then gV (l.take k) else gV (l.take k)+1)=gV (l.take (k+1)):=by
     rw [b3,E,if_pos A];simp
    have a9:=aK1 Y;obtain ⟨f1,f2,f3,f4,f5,f6,f7,f8,f9,i1⟩:=pE (.pointer (some ⟨b,0,none⟩));subst N;unfold uG at *;clear D he S hv hg U X Z O b3 Y E G A;generalize gV (l.take k)=ck at *
    go_wp2_with (at_mapUpdate;refine P.wpList_mapUpdate_node _ rfl _ _ _ 103 rfl 3 underlying103 _ ck f rfl HM.out _ _ rfl rfl c4.out ?_;intro w1 b8 c5)
    go_roundw
    case rel=>
     have b5:P.MapIs w1 w.heap.size (fun k'=>if kEq (.pointer (some ⟨b,0,none⟩)) k' then some (.int .i64 (ck:Int)) else f k') (if (f (.pointer (some ⟨b,0,none⟩))).isSome then ck else ck+1):=b8;rw [a9.out] at b5;exact ⟨k+1,_,by omega,by go_num,b5,H.out,aU HG.out c5 (fun j e=>by cases e;exact Nat.le_refl _)⟩
    case measure=>simp [intOf];omega
   ·have b2:Hid (gV (l.take (k+1))=gV (l.take k)):=by unfold Hid;rw [E,if_neg A];rfl
    have H:Hid (aFf l (k+1) f):=by
     refine ⟨fun i c hi J=>?_,fun c J=>?_⟩
     ·by_cases e:i=k
      ·subst e;rw [hv] at J;rw [Option.some.inj J] at A;simp [uG,isG] at A
      ·exact S.out.at_ i c (by omega) J
     ·rw [G];exact List.mem_append_left _ (S.out.only c J)
    obtain ⟨t,y,a4,h4⟩:∃ t y,v=.iface t y/\bF t 195 y (.pointer none):=by
     cases T with
     | leaf p=>
       simp only [Rep] at D;rcases D with h | h | h | h | h | ⟨_,b,tv,h,_⟩
       ·exact ⟨_,_,h.2,oQ.2.2.2.2.2.2.1⟩
       ·exact ⟨_,_,h.2,rK.2.2.2.2.2.2.1⟩
       ·exact ⟨_,_,h.2,rR.2.2.2.2.2.2.1⟩
       ·exact ⟨_,_,h.2,vV.2.2.2.2.2.2.1⟩
       ·exact ⟨_,_,h.2,yS.2.2.2.2.2.2.1⟩
       ·exact ⟨_,_,h,(qS _).2.2.2.2.2.2.1⟩
     | un p x=>
       simp only [Rep] at D;obtain ⟨b,u,_,_,_,_,h | h⟩:=D
       ·rw [h.2] at A;simp [isG] at A
       ·exact ⟨_,_,h.2,(rA _).2.2.2.2.2.2.1⟩
     | bin p x y=>
       simp only [Rep] at D;obtain ⟨b,u,u',_,_,_,_,_,_,h | h⟩:=D
       ·exact ⟨_,_,h.2,(vK _).2.2.2.2.2.2.1⟩
       ·exact ⟨_,_,h.2,(vE _).2.2.2.2.2.2.1⟩
    subst a4;clear D he S hv hg U X E G A;go_wp2
    go_roundw
    case rel=>exact ⟨k+1,f,by omega,by go_num,by rw [b2.out];exact HM.out,H.out,HG.out⟩
    case measure=>simp [intOf];omega
  ·have c6:k=l.length:=by omega
   have a8:Hid (P.MapIs wr w.heap.size f (gV l)/\aFf l l.length f):=by
    have h1:=S.out;rw [c6] at h1 X;rw [List.take_length] at X;exact ⟨X,h1⟩
   clear S X;go_wp2;go_ret;exact ⟨f,rfl,a8.out.1,a8.out.2,hg⟩
theorem aH0:(prog.info? 157).map (fun i=>(i.zero,i.size,i.bytes))=some (some (.agg #[.nilIface,.int .i64 0,.bool false,.int .i64 0,.bool false]),5,48):=by kernel_rfl
structure Tk where
 v:Value
 T:Tr
 n:Nat
 ind:Int
 fl:Bool
 bw:Int
 be:Bool
def Tk.val (t:Tk):Value:=.agg #[t.v,.int .i64 t.ind,.bool t.fl,.int .i64 t.bw,.bool t.be]
def Tk.cells (t:Tk):List Value:=[t.v,.int .i64 t.ind,.bool t.fl,.int .i64 t.bw,.bool t.be]
def gM:List Tk->List Value
 | []=>[]
 | t::r=>t.cells++gM r
theorem pL:∀ (r:List Tk),(gM r).length=r.length*5
 | []=>rfl
 | t::r=>by simp only [gM,List.length_append,pL r,Tk.cells,List.length_cons,List.length_nil];omega
theorem pR:∀ (r s:List Tk),gM (r++s)=gM r++gM s
 | [],s=>rfl
 | t::r,s=>by simp only [List.cons_append,gM,pR r s,List.append_assoc]
theorem aAI (t:Tk):gM [t]=t.cells:=by simp [gM]
structure Pr (pb:Nat) (w0 w:World) (a0 a1 a2 a3 wv tv hv:Value) (ts:List Tk) (tx:List Int) (col:Int) (ch:List Int):Prop where
 bel:Below pb w0 w
 c0:w.cell? ⟨pb,0,none⟩=some a0
 c1:w.cell? ⟨pb,1,none⟩=some a1
 c2:w.cell? ⟨pb,2,none⟩=some a2
 c3:w.cell? ⟨pb,3,none⟩=some a3
 c4:w.cell? ⟨pb,4,none⟩=some wv
 c5:w.cell? ⟨pb,5,none⟩=some tv
 c6:w.cell? ⟨pb,6,none⟩=some (.int .i64 col)
 c7:w.cell? ⟨pb,7,none⟩=some hv
 fz:∀ j,w.frozen? ⟨pb,j,none⟩=false
 wrow:w.ownsRow (pb+1) 157 5 wv ts.length (gM ts)
 trow:OwB (pb+1) w tv tx
 hrow:OwI (pb+1) w hv ch
 dwt:∀ g,wv.ownBlock=some g->tv.ownBlock≠some g
 dwh:∀ g,wv.ownBlock=some g->hv.ownBlock≠some g
 dth:∀ g,tv.ownBlock=some g->hv.ownBlock≠some g
section
variable {pb:Nat} {w0 w:World} {a0 a1 a2 a3 wv tv hv:Value} {ts:List Tk} {tx:List Int} {col:Int} {ch:List Int}
theorem Pr.lt (h:Pr pb w0 w a0 a1 a2 a3 wv tv hv ts tx col ch):pb<w.heap.size:=World.block_lt_of_cell? w _ h.c0
theorem nO {w w':World} {pb:Nat} (u:pb<w.heap.size) {r:Option Nat} (y:w.grownBy w' r) (A:r≠some pb) (h:∀ j,w.frozen? ⟨pb,j,none⟩=false):∀ j,w'.frozen? ⟨pb,j,none⟩=false:=
 fun j=>(World.frozen?_of_block (y.block pb u (fun e=>A e.symm))).trans (h j)
theorem gC {B:Nat} {w w':World} {e:TypeId} {size n:Nat} {v:Value} {xs:List Value} {r:Option Nat} (h:w.ownsRow B e size v n xs) (j:w.grownBy w' r) (u:∀ g,v.ownBlock=some g->r≠some g):w'.ownsRow B e size v n xs:=
 World.ownsRow.kept h j (by
  cases hv:v.ownBlock with
  | none=>exact .inl rfl
  | some k=>exact .inr fun e=>u k hv e.symm)
theorem Pr.K (h:Pr pb w0 w a0 a1 a2 a3 wv tv hv ts tx col ch) {w':World} (j:w.grownBy w' none):Pr pb w0 w' a0 a1 a2 a3 wv tv hv ts tx col ch:=
 ⟨h.bel.grown j (Nat.le_of_lt h.lt) (fun k e=>by cases e),j.cell h.c0 (by simp),j.cell h.c1 (by simp),j.cell h.c2 (by simp),j.cell h.c3 (by simp),j.cell h.c4 (by simp),j.cell h.c5 (by simp),j.cell h.c6 (by simp),j.cell h.c7 (by simp),
  nO h.lt j (by simp) h.fz,gC h.wrow j (by simp),gC h.trow j (by simp),gC h.hrow j (by simp),h.dwt,h.dwh,h.dth⟩
theorem Pr.work (h:Pr pb w0 w a0 a1 a2 a3 wv tv hv ts tx col ch) {X:World} {wv':Value} {E:List Tk} (y:w.grownBy X wv.ownBlock) (D:X.ownsRow (pb+1) 157 5 wv' E.length (gM E))
  (S:wv'.ownBlock=wv.ownBlock\/∃ g,wv'.ownBlock=some g/\w.heap.size<=g):Pr pb w0 (X.setCell ⟨pb,4,none⟩ wv') a0 a1 a2 a3 wv' tv hv E tx col ch:=by
 have L:=h.lt;have N:=World.ownsRow.lt h.wrow;have M:=World.ownsRow.lt h.trow;have J:=World.ownsRow.lt h.hrow;have hn:wv.ownBlock≠some pb:=fun e=>by have:=N pb e;omega
 have u:some pb≠wv.ownBlock:=fun e=>hn e.symm;have Z:∀ g,wv'.ownBlock=some g->pb+1<=g:=fun g e=>(World.ownsRow.lt D g e).1;have d0:=y.cell h.c0 u;have d1:=y.cell h.c1 u;have d2:=y.cell h.c2 u;have d3:=y.cell h.c3 u;have d4:=y.cell h.c4 u;have d5:=y.cell h.c5 u;have d6:=y.cell h.c6 u;have d7:=y.cell h.c7 u;have O:=nO L y hn h.fz
 have A:∀ (v:Value),(∀ g,v.ownBlock=some g->g<w.heap.size)->(∀ g,wv.ownBlock=some g->v.ownBlock≠some g)->∀ g,wv'.ownBlock=some g->v.ownBlock≠some g:=by
  intro v U Y g H G;rcases S with e | ⟨g',e,b1⟩
  ·exact Y g (by rw [<- e];exact H) G
  ·rw [H] at e;cases e;have:=U g G;omega
 refine ⟨(h.bel.grown y (Nat.le_of_lt L) (fun k e=>by have:=N k e;omega)).setCell (p:=⟨pb,4,none⟩) (Nat.le_refl _) _,by simp [go_sem,d0],by simp [go_sem,d1],by simp [go_sem,d2],by simp [go_sem,d3],by simp [go_sem,d4],by simp [go_sem,d5],by simp [go_sem,d6],by simp [go_sem,d7],fun j=>by simpa using O j,?_,?_,?_,?_,?_,h.dth⟩
 ·exact dP D _ _ (fun e=>by have:=Z pb e;omega)
 ·exact dP (gC h.trow y (fun g H G=>h.dwt g G H)) _ _ (fun e=>by have:=M pb e;omega)
 ·exact dP (gC h.hrow y (fun g H G=>h.dwh g G H)) _ _ (fun e=>by have:=J pb e;omega)
 ·exact A tv (fun g e=>(M g e).2) h.dwt
 ·exact A hv (fun g e=>(J g e).2) h.dwh
theorem Pr.X (h:Pr pb w0 w a0 a1 a2 a3 wv tv hv ts tx col ch) {U:World} {tv':Value} {tx':List Int} (y:w.grownBy U tv.ownBlock) (G:OwB (pb+1) U tv' tx')
  (O:tv'.ownBlock=tv.ownBlock\/∃ g,tv'.ownBlock=some g/\w.heap.size<=g):Pr pb w0 (U.setCell ⟨pb,5,none⟩ tv') a0 a1 a2 a3 wv tv' hv ts tx' col ch:=by
 have J:=h.lt;have M:=World.ownsRow.lt h.wrow;have L:=World.ownsRow.lt h.trow;have H:=World.ownsRow.lt h.hrow;have hn:tv.ownBlock≠some pb:=fun e=>by have:=L pb e;omega
 have u:some pb≠tv.ownBlock:=fun e=>hn e.symm;have Z:∀ g,tv'.ownBlock=some g->pb+1<=g:=fun g e=>(World.ownsRow.lt G g e).1;have d0:=y.cell h.c0 u;have d1:=y.cell h.c1 u;have d2:=y.cell h.c2 u;have d3:=y.cell h.c3 u;have d4:=y.cell h.c4 u;have d5:=y.cell h.c5 u;have d6:=y.cell h.c6 u;have d7:=y.cell h.c7 u;have N:=nO J y hn h.fz
 have E:∀ (v:Value),(∀ g,v.ownBlock=some g->g<w.heap.size)->(∀ g,tv.ownBlock=some g->v.ownBlock≠some g)->∀ g,tv'.ownBlock=some g->v.ownBlock≠some g:=by
  intro v S Y g D A;rcases O with e | ⟨g',e,b1⟩
  ·exact Y g (by rw [<- e];exact D) A
  ·rw [D] at e;cases e;have:=S g A;omega
 refine ⟨(h.bel.grown y (Nat.le_of_lt J) (fun k e=>by have:=L k e;omega)).setCell (p:=⟨pb,5,none⟩) (Nat.le_refl _) _,by simp [go_sem,d0],by simp [go_sem,d1],by simp [go_sem,d2],by simp [go_sem,d3],by simp [go_sem,d4],by simp [go_sem,d5],by simp [go_sem,d6],by simp [go_sem,d7],fun j=>by simpa using N j,?_,?_,?_,?_,h.dwh,?_⟩
 ·exact dP (gC h.wrow y (fun g D A=>h.dwt g D A)) _ _ (fun e=>by have:=M pb e;omega)
 ·exact dP G _ _ (fun e=>by have:=Z pb e;omega)
 ·exact dP (gC h.hrow y (fun g D A=>h.dth g A D)) _ _ (fun e=>by have:=H pb e;omega)
 ·exact fun g D A=>E wv (fun g e=>(M g e).2) (fun g D A=>h.dwt g A D) g A D
 ·exact E hv (fun g e=>(H g e).2) h.dth
theorem Pr.column (h:Pr pb w0 w a0 a1 a2 a3 wv tv hv ts tx col ch) (c:Int):Pr pb w0 (w.setCell ⟨pb,6,none⟩ (.int .i64 c)) a0 a1 a2 a3 wv tv hv ts tx c ch:=by
 have y:=World.ownsRow.lt h.wrow;have D:=World.ownsRow.lt h.trow;have A:=World.ownsRow.lt h.hrow;have M:=h.c0;have H:=h.c1;have G:=h.c2;have N:=h.c3;have E:=h.c4;have L:=h.c5;have O:=h.c6;have J:=h.c7;have u:=h.fz
 exact ⟨h.bel.setCell (p:=⟨pb,6,none⟩) (Nat.le_refl _) _,by simp [go_sem,M],by simp [go_sem,H],by simp [go_sem,G],by simp [go_sem,N],by simp [go_sem,E],by simp [go_sem,L],by simp [go_sem,O],by simp [go_sem,J],fun j=>by simpa using u j,
  dP h.wrow _ _ (fun e=>by have:=y pb e;omega),dP h.trow _ _ (fun e=>by have:=D pb e;omega),dP h.hrow _ _ (fun e=>by have:=A pb e;omega),h.dwt,h.dwh,h.dth⟩
theorem Pr.aside (h:Pr pb w0 w a0 a1 a2 a3 wv tv hv ts tx col ch) (k j:Nat) (x:Value) (H:pb<k) (E:wv.ownBlock≠some k) (G:tv.ownBlock≠some k) (D:hv.ownBlock≠some k):Pr pb w0 (w.setCell ⟨k,j,none⟩ x) a0 a1 a2 a3 wv tv hv ts tx col ch:=by
 have y:=sP w ⟨k,j,none⟩ x;have u:some pb≠some k:=fun e=>by cases e;omega
 exact ⟨h.bel.setCell (p:=⟨k,j,none⟩) (by simp only;omega) _,y.cell h.c0 u,y.cell h.c1 u,y.cell h.c2 u,y.cell h.c3 u,y.cell h.c4 u,y.cell h.c5 u,y.cell h.c6 u,y.cell h.c7 u,fun A=>by simpa using h.fz A,
  dP h.wrow _ _ E,dP h.trow _ _ G,dP h.hrow _ _ D,h.dwt,h.dwh,h.dth⟩
theorem Pr.choice {g cap l:Nat} (h:Pr pb w0 w a0 a1 a2 a3 wv tv (.slice (some ⟨g,0,none⟩) l cap) ts tx col ch) (J:l=ch.length) (j:Nat) (x:Int) :
  Pr pb w0 (w.setCell ⟨g,j,none⟩ (.int .i64 x)) a0 a1 a2 a3 wv tv (.slice (some ⟨g,0,none⟩) l cap) ts tx col (ch.set j x):=by
 have E:=h.lt;have L:=World.ownsRow.lt h.hrow g rfl;subst J;have G:w.ownsRow (pb+1) 3 1 (.slice (some ⟨g,0,none⟩) ch.length cap) ch.length (ch.map (Value.int .i64)):=h.hrow;obtain ⟨H,y⟩:=World.ownsRow.stored G j (.int .i64 x);have u:some pb≠some g:=fun e=>by cases e;omega
 refine ⟨h.bel.setCell (p:=⟨g,j,none⟩) (by simp only;omega) _,y.cell h.c0 u,y.cell h.c1 u,y.cell h.c2 u,y.cell h.c3 u,y.cell h.c4 u,y.cell h.c5 u,y.cell h.c6 u,y.cell h.c7 u,nO E y (fun e=>u e.symm) h.fz,
  gC h.wrow y (fun k A D=>h.dwh k A D),gC h.trow y (fun k A D=>h.dth k A D),?_,h.dwt,h.dwh,h.dth⟩
 unfold OwI Ow;rw [List.map_set,List.length_set];exact H
end
theorem rJ {P:Program} {ops:Array Oper} {o:Oper} {a:Act} {w:World} {K:Act->World->Prop} {Q:Exit->Act->World->Prop} {E:Prop} (D:o.guard=none) (s x:Operand) (t:TypeId)
  (j:o.op=Op.call { callee:=Callee.builtin Builtin.append,args:=#[s,x],argTypes:=#[t,t] }) (v y u:Value) (w':World) (H:a.eval s=v) (G:a.eval x=y)
  (h:(Builtin.append_ #[t,t] o.type #[v,y]).run P w=.ok u w') (A:K (a.put o.dst u) w'):if Region.wanted o (yielded ops a.tmps)=true then Oper.wp P o a w K Q else E:=by
 rw [if_pos (show Region.wanted o (yielded ops a.tmps)=true by simp [Region.wanted,D])];unfold Oper.wp;simp only [execOp,j,resolve,invoke,builtin,Sem.run_bind,Sem.run_pure,Result.andThen_ok,List.map_toArray,List.map_cons,List.map_nil,H,G,h];exact A
theorem aFD (w:World) (a b c d e:Value) (t:TypeId):∀ j u,[a,b,c,d,e][j]?=some u->(w.alloc (.cells #[a,b,c,d,e] t)).cell? ((⟨w.heap.size,0,none⟩:Addr).add j)=some u:=by
 intro j u h
 match j,h with
 | 0,h=>simp at h;subst h;simp [Addr.add]
 | 1,h=>simp at h;subst h;simp [Addr.add]
 | 2,h=>simp at h;subst h;simp [Addr.add]
 | 3,h=>simp at h;subst h;simp [Addr.add]
 | 4,h=>simp at h;subst h;simp [Addr.add]
theorem jS (pb:Nat) (w0 w:World) (a0 a1 a2 a3 wv tv hv:Value) (ts:List Tk) (tx:List Int) (col:Int) (ch:List Int) (h:Pr pb w0 w a0 a1 a2 a3 wv tv hv ts tx col ch) (t:Tk) (ht:∃ D u,t.v=.iface D u) (hl:ts.length<=1000000) :
  Calls prog 94 #[.pointer (some ⟨pb,4,none⟩),t.val] w fun e w'=>e=.returned (.tuple #[])/\(∃ wv',Pr pb w0 w' a0 a1 a2 a3 wv' tv hv (ts++[t]) tx col ch/\(wv'.ownBlock=wv.ownBlock\/∃ g,wv'.ownBlock=some g/\w.heap.size<=g))/\w.heap.size<=w'.heap.size/\∀ k,k<w.heap.size->k≠pb->wv.ownBlock≠some k->w'.heap[k]?=w.heap[k]?:=by
 obtain ⟨i0,hi,a5,b1,b2⟩:=info_parts aH0;obtain ⟨ra,E,a8,_,_⟩:=bD h.wrow;have c4:=h.c4;have f4:=h.fz 4;have a9:=h.lt;have b5:=World.ownsRow.lt h.wrow;obtain ⟨D,u,S⟩:=ht;have HP:=bJ h;have O:t.val=.agg #[.iface D u,.int .i64 t.ind,.bool t.fl,.int .i64 t.bw,.bool t.be]:=(by unfold Tk.val;rw [S]);rw [O];have HC:Hid (t.cells=[.iface D u,.int .i64 t.ind,.bool t.fl,.int .i64 t.bw,.bool t.be]):=(by unfold Hid Tk.cells;rw [S]);have M:=h.wrow;subst a8;have X:w.grownBy (w.alloc (.cells #[.iface D u,.int .i64 t.ind,.bool t.fl,.int .i64 t.bw,.bool t.be] 157)) none:=gWA;have Z:(w.alloc (.cells #[.iface D u,.int .i64 t.ind,.bool t.fl,.int .i64 t.bw,.bool t.be] 157)).drew.ownsRow (pb+1) 157 5 (.slice ra ts.length E) ts.length (gM ts):=(gC M X (by simp):World.ownsRow _ (pb+1) 157 5 (.slice ra ts.length E) ts.length (gM ts));obtain ⟨v1,w1,J,A,j,_,N⟩:=run_append_own_at (P:=prog) ((w.alloc (.cells #[.iface D u,.int .i64 t.ind,.bool t.fl,.int .i64 t.bw,.bool t.be] 157)).drew.alloc (.cells #[.iface D u,.int .i64 t.ind,.bool t.fl,.int .i64 t.bw,.bool t.be] 157)) (pb+1) 104 104 157 i0 (.agg #[.nilIface,.int .i64 0,.bool false,.int .i64 0,.bool false]) 5 48 underlying104 hi a5 b1 b2 rfl (by decide) (.slice ra ts.length E) ts.length (gM ts) (World.ownsRow.alloc Z _) ⟨(w.alloc (.cells #[.iface D u,.int .i64 t.ind,.bool t.fl,.int .i64 t.bw,.bool t.be] 157)).drew.heap.size,0,none⟩ 1 1 [.iface D u,.int .i64 t.ind,.bool t.fl,.int .i64 t.bw,.bool t.be] rfl (aFD (w.alloc (.cells #[.iface D u,.int .i64 t.ind,.bool t.fl,.int .i64 t.bw,.bool t.be] 157)).drew _ _ _ _ _ _) (by intro u hu;simp at hu;rcases hu with rfl | rfl | rfl | rfl | rfl<;>rfl) (by unfold maxLen;omega) (by omega) (by simp;omega);have H:=J;simp only [World.alloc_drew,World.size_alloc,World.size_drew] at H;have y:w.grownBy ((w.alloc (.cells #[.iface D u,.int .i64 t.ind,.bool t.fl,.int .i64 t.bw,.bool t.be] 157)).drew.alloc (.cells #[.iface D u,.int .i64 t.ind,.bool t.fl,.int .i64 t.bw,.bool t.be] 157)) none:=aA X ⟨rfl,rfl,rfl,by simp,fun i hi _=>heap_alloc_old (w.alloc (.cells #[.iface D u,.int .i64 t.ind,.bool t.fl,.int .i64 t.bw,.bool t.be] 157)).drew _ hi⟩;have U:(Value.slice ra ts.length E).ownBlock≠some pb:=fun e=>by have:=b5 pb e;omega
 have x4:=j.cell (y.cell c4 (by simp)) (fun e=>U e.symm);have y4:w1.frozen? ⟨pb,4,none⟩=false:=(World.frozen?_of_block (j.block pb (by have:=y.size;omega) (fun e=>U e.symm))).trans ((World.frozen?_of_block (y.block pb a9 (by simp))).trans f4);obtain ⟨va,G,a6,_,_⟩:=bD A;subst a6;have HO:=bJ A;have HG:=bJ j;have HA:=bJ N;have L:=bJ y;clear h O S J A j N X y Z M U
 go_enter func94,ntmps94
 go_wp2
 go_region_law (refine rJ rfl (.tmp 8) (.tmp 10) 104 rfl _ _ _ _ (by simp [Act.eval]) (by simp [Act.eval]) H ?_)
 all_goals
  go_simp
  go_wp2
  go_returns
  have Y:w1.ownsRow (pb+1) 157 5 (.slice va (ts.length+1) G) (ts++[t]).length (gM (ts++[t])):=by
   rw [pR,aAI,HC.out,List.length_append];exact HO.out
  refine ⟨rfl,⟨.slice va (ts.length+1) G,?_,?_⟩,?_,?_⟩
  ·refine Pr.work (HP.out.K L.out) (wv':=.slice va (ts.length+1) G) HG.out Y ?_;rcases HA.out with e | e
   ·exact .inl e
   ·exact .inr ⟨_,e,by simp⟩
  ·rcases HA.out with e | e
   ·exact .inl e
   ·exact .inr ⟨_,e,by simp;omega⟩
  ·have h1:=L.out.size;have h2:=HG.out.size;simp only [World.size_setCell];omega
  ·intro k hk b0 b4;rw [heap_setCell_other _ _ _ _ (fun e=>b0 (by simpa using e)),HG.out.block k (Nat.lt_of_lt_of_le hk L.out.size) (fun e=>b4 e.symm),L.out.block k hk (by simp)]
theorem aEK (r:List Tk) (t:Tk) (j:Nat) (h:j<5):(gM (r++[t]))[r.length*5+j]?=t.cells[j]?:=by
 rw [pR,List.getElem?_append_right (by rw [pL];omega),pL,aAI];congr 1;omega
theorem aHp (pb:Nat) (w0 w:World) (a0 a1 a2 a3 wv tv hv:Value) (tx:List Int) (col:Int) (ch:List Int) (h:Pr pb w0 w a0 a1 a2 a3 wv tv hv [] tx col ch) :
  Calls prog 96 #[.pointer (some ⟨pb,4,none⟩)] w fun e w'=>e=.returned (.tuple #[.agg #[.nilIface,.int .i64 0,.bool false,.int .i64 0,.bool false],.bool false])/\Pr pb w0 w' a0 a1 a2 a3 wv tv hv [] tx col ch:=by
 obtain ⟨E,u,j,_,_⟩:=bD h.wrow;have G:=h.c4;have D:=h.fz 4;have A:=h.lt;have y:=bJ h;simp only [List.length_nil] at j;subst j;clear h
 go_enter func96,ntmps96
 go_wp2
 go_returns
 exact ⟨rfl,y.out.K (aA gWA gWA)⟩
theorem aIY (pb:Nat) (w0 w:World) (a0 a1 a2 a3 wv tv hv:Value) (ts:List Tk) (t:Tk) (tx:List Int) (col:Int) (ch:List Int) (h:Pr pb w0 w a0 a1 a2 a3 wv tv hv (ts++[t]) tx col ch) (ht:∃ N u,t.v=.iface N u) (hl:ts.length<=1000000) :
  Calls prog 96 #[.pointer (some ⟨pb,4,none⟩)] w fun e w'=>e=.returned (.tuple #[t.val,.bool true])/\∃ wv',Pr pb w0 w' a0 a1 a2 a3 wv' tv hv ts tx col ch:=by
 obtain ⟨N,u,D⟩:=ht;rcases h.wrow.2 with ⟨_,h0⟩ | ⟨g,cap,b1,L,J,hg,M,O,H,E⟩
 ·simp at h0
 subst L;have j:=h.wrow;have y:(ts++[t]).length=ts.length+1:=(by simp);have U:=World.ownsRow.cellAt j (ts.length*5+0) (by rw [y];omega);have S:=World.ownsRow.cellAt j (ts.length*5+1) (by rw [y];omega);have Z:=World.ownsRow.cellAt j (ts.length*5+2) (by rw [y];omega);have X:=World.ownsRow.cellAt j (ts.length*5+3) (by rw [y];omega);have m4:=World.ownsRow.cellAt j (ts.length*5+4) (by rw [y];omega);rw [aEK ts t _ (by omega)] at U S Z X m4;simp only [Tk.cells,List.getElem?_cons_zero,List.getElem?_cons_succ,D,Nat.add_zero] at U S Z X m4;have c4:=h.c4;have f4:=h.fz 4;have a8:=h.lt;have b2:=World.ownsRow.lt j g rfl;have HP:=bJ h;rw [y] at c4 M;unfold maxLen at O;have A:=aC6 j (m:=ts.length) (by simp);have Y:(gM (ts++[t])).take (ts.length*5)=gM ts:=(by rw [pR,<- pL ts];exact List.take_left);rw [Y] at A;have G:=bJ A;have HV:Hid (t.val=.agg #[.iface N u,.int .i64 t.ind,.bool t.fl,.int .i64 t.bw,.bool t.be]):=(by unfold Hid Tk.val;rw [D]);clear h j hg H E J A Y D y
 go_enter func96,ntmps96
 go_wp2
 go_returns
 exact ⟨by rw [HV.out],.slice (some ⟨g,0,none⟩) ts.length cap,(Pr.work HP.out (World.grownBy.refl _ _) G.out (.inl rfl)).K (aA gWA gWA)⟩
def nI (v:Value) (ind:Int) (fl:Bool) (bw:Int) (be:Bool):Value:=.agg #[v,.int .i64 ind,.bool fl,.int .i64 bw,.bool be]
theorem wR (E h:TypeId) (u j:Value) (ind:Int) (fl:Bool) (y:Int) (D:Bool) (w:World) :
  Calls prog 130 #[nI (.iface E u) ind fl y D,.iface h j] w fun e w'=>e=.returned (nI (.iface h j) ind fl y D)/\w.grownBy w' none:=by
 unfold nI;have A:∀ (G H:Obj),w.grownBy ((w.alloc G).alloc H) none:=fun _ _=>aA gWA gWA;have J:=bJ A;clear A
 go_enter func130,ntmps130
 go_wp2
 go_returns
 exact ⟨rfl,J.out _ _⟩
def brk (T:Tr) (ind:Int) (fl:Bool):Int × Bool:=
 match T with
 | .leaf p=>if p.k=2\/p.k=3 then (ind,!fl) else if p.k=4 then (ind,true) else if p.k=5 then (0,true) else (0,false)
 | _=>(0,false)
theorem aEO (B:Nat) (v:Value) (T:Tr) (ind:Int) (fl:Bool) (O:Int) (S:Bool) (w M:World) (A:Rep (fun _=>False) B M v T) :
  Calls prog 97 #[nI v ind fl O S] w fun e w'=>e=.returned (.tuple #[.int .i64 (brk T ind fl).1,.bool (brk T ind fl).2])/\w.grownBy w' none:=by
 unfold nI
 have N:(∃ t y,v=.iface t y/\brk T ind fl=(0,false)/\bF t 183 y (.agg #[])/\bF t 184 y (.agg #[])/\bF t 185 y (.agg #[])/\bF t 186 y (.agg #[]))\/
   (v=.iface 183 (.agg #[])/\brk T ind fl=(ind,!fl))\/(v=.iface 184 (.agg #[])/\brk T ind fl=(ind,!fl))\/(v=.iface 185 (.agg #[])/\brk T ind fl=(ind,true))\/(v=.iface 186 (.agg #[])/\brk T ind fl=(0,true)):=by
  cases T with
  | leaf p=>
    simp only [Rep] at A;rcases A with h | h | h | h | h | ⟨D,b,tv,h,_⟩
    ·have:=oQ;exact .inl ⟨_,_,h.2,by simp [brk,h.1],this.2.2.1,this.2.2.2.1,this.2.2.2.2.1,this.2.2.2.2.2.1⟩
    ·exact .inr (.inl ⟨h.2,by simp [brk,h.1]⟩)
    ·exact .inr (.inr (.inl ⟨h.2,by simp [brk,h.1]⟩))
    ·exact .inr (.inr (.inr (.inl ⟨h.2,by simp [brk,h.1]⟩)))
    ·exact .inr (.inr (.inr (.inr ⟨h.2,by simp [brk,h.1]⟩)))
    ·have:=qS (.pointer (some ⟨b,0,none⟩));exact .inl ⟨_,_,h,by simp [brk,D],this.2.2.1,this.2.2.2.1,this.2.2.2.2.1,this.2.2.2.2.2.1⟩
  | un p x=>
    simp only [Rep] at A;obtain ⟨b,u,_,_,_,_,h | h⟩:=A
    ·have:=pE (.pointer (some ⟨b,0,none⟩));exact .inl ⟨_,_,h.2,rfl,this.2.2.1,this.2.2.2.1,this.2.2.2.2.1,this.2.2.2.2.2.1⟩
    ·have:=rA (.pointer (some ⟨b,0,none⟩));exact .inl ⟨_,_,h.2,rfl,this.2.2.1,this.2.2.2.1,this.2.2.2.2.1,this.2.2.2.2.2.1⟩
  | bin p x y=>
    simp only [Rep] at A;obtain ⟨b,u,U,_,_,_,_,_,_,h | h⟩:=A
    ·have:=vK (.pointer (some ⟨b,0,none⟩));exact .inl ⟨_,_,h.2,rfl,this.2.2.1,this.2.2.2.1,this.2.2.2.2.1,this.2.2.2.2.2.1⟩
    ·have:=vE (.pointer (some ⟨b,0,none⟩));exact .inl ⟨_,_,h.2,rfl,this.2.2.1,this.2.2.2.1,this.2.2.2.2.1,this.2.2.2.2.2.1⟩
 have E:Hid (∀ (o:Obj),w.grownBy (w.alloc o) none):=fun _=>gWA;rcases N with ⟨t,y,D,j,L,G,J,H⟩ | ⟨D,j⟩ | ⟨D,j⟩ | ⟨D,j⟩ | ⟨D,j⟩
 ·rw [j];subst D;clear A j
  go_enter func97,ntmps97
  go_wp2;go_ret2;exact ⟨rfl,E.out _⟩
 ·obtain ⟨f1,f2,L,G,J,H,_⟩:=rK;rw [j];subst D;clear A j;cases fl
  all_goals
   go_enter func97,ntmps97
   go_wp2
   go_quiet (fail)
   go_wp2;go_ret2;exact ⟨rfl,dT (E.out _) _⟩
 ·obtain ⟨f1,f2,L,G,J,H,_⟩:=rR;rw [j];subst D;clear A j;cases fl
  all_goals
   go_enter func97,ntmps97
   go_wp2
   go_quiet (fail)
   go_wp2;go_ret2;exact ⟨rfl,dT (E.out _) _⟩
 ·obtain ⟨f1,f2,L,G,J,H,_⟩:=vV;rw [j];subst D;clear A j
  go_enter func97,ntmps97
  go_wp2;go_ret2;exact ⟨rfl,E.out _⟩
 ·obtain ⟨f1,f2,L,G,J,H,_⟩:=yS;rw [j];subst D;clear A j
  go_enter func97,ntmps97
  go_wp2;go_ret2;exact ⟨rfl,E.out _⟩
end Go.Proofs.YtgifkcpdihphlaaGreatDoor
