import Derived.ArgAppend
import Derived.Handy
import Derived.Test.YtckcaefnokeodaaGreatDoorMAD
set_option maxHeartbeats 16000000
set_option maxRecDepth 100000
namespace Go.Proofs.YtckcaefnokeodaaGreatDoor
open Go.Proofs.Tryz List World
section
open Go.RowKit
inductive KK where
 | bs | is | cm | nd
def KK.ty:KK->TypeId
 | .bs=>5
 | .is=>3
 | .cm=>96
 | .nd=>49
def KK.sl:KK->TypeId
 | .bs=>22
 | .is=>35
 | .cm=>24
 | .nd=>23
def KK.sz:KK->Nat
 | .bs=>1
 | .is=>1
 | .cm=>2
 | .nd=>8
theorem KK.pos (k:KK):0<k.sz:=by cases k<;>exact Nat.succ_pos _
abbrev Sv:=Option Addr × Nat × Nat
def Sv.v (s:Sv):Value:=.slice s.1 s.2.1 s.2.2
def aL:Sv:=(none,0,0)
inductive El where
 | b (z:Int)
 | i (z:Int)
 | c (x:Bool) (t:Sv)
 | d (k:Int) (l:Sv) (m:Bool) (y x u:Sv) (n:Int) (t:Sv)
def El.kd:El->KK
 | .b _=>.bs
 | .i _=>.is
 | .c _ _=>.cm
 | .d _ _ _ _ _ _ _ _=>.nd
def El.en:El->List Value
 | .b z=>[.int .u8 z]
 | .i z=>[.int .i64 z]
 | .c x t=>[.bool x,t.v]
 | .d k l m y x u n t=>[.int .i64 k,l.v,.bool m,y.v,x.v,u.v,.int .i64 n,t.v]
theorem El.len (e:El):e.en.length=e.kd.sz:=by cases e<;>rfl
theorem El.one (e:El):∀ u∈e.en,u.oneCell'=true:=by cases e<;>simp [El.en,Sv.v,Value.oneCell']
def ens (ys:List El):List Value:=ys.flatMap El.en
def Kds (k:KK) (ys:List El):Prop:=∀ y∈ys,y.kd=k
theorem aGA (a b:List El):ens (a++b)=ens a++ens b:=by simp [ens]
theorem aDN {k:KK} : ∀ {A:List El},Kds k A->(ens A).length=A.length*k.sz
 | [],_=>by simp [ens]
 | y::A,h=>by
   have G:=h y (by simp);have D:=aDN (fun x E=>h x (by simp [E]):Kds k A);have e:ens (y::A)=y.en++ens A:=(by simp [ens]);rw [e,length_append,D,El.len,G,length_cons,Nat.add_mul];omega
theorem aJ4 {k:KK} : ∀ {A:List El},Kds k A->∀ {i f:Nat} {y:El},A[i]?=some y->f<k.sz->(ens A)[i*k.sz+f]?=y.en[f]?
 | [],_,i,f,y,hy,_=>by simp at hy
 | x::A,h,0,f,y,hy,hf=>by
   have D:=h x (by simp);have e:ens (x::A)=x.en++ens A:=(by simp [ens]);simp at hy;subst hy;rw [e,getElem?_append_left (by rw [El.len,D];omega),Nat.zero_mul,Nat.zero_add]
 | x::A,h,i+1,f,y,hy,hf=>by
   have D:=h x (by simp);have e:ens (x::A)=x.en++ens A:=(by simp [ens]);rw [e,getElem?_append_right (by rw [El.len,D,Nat.add_mul];omega),El.len,D,Nat.add_mul,Nat.one_mul,show i*k.sz+k.sz+f - k.sz=i*k.sz+f by omega];exact aJ4 (fun x E=>h x (by simp [E]):Kds k A) (by simpa using hy) hf
theorem aHb {k:KK} : ∀ {A:List El},Kds k A->∀ {i f:Nat} {y D:El} {u:Value},A[i]?=some y->f<k.sz->D.en=y.en.set f u->ens (A.set i D)=(ens A).set (i*k.sz+f) u
 | [],_,i,f,y,D,u,hy,_,_=>by simp at hy
 | x::A,h,0,f,y,D,u,hy,hf,he=>by
   have E:=h x (by simp);simp at hy;subst hy;have e:∀ z,ens (z::A)=z.en++ens A:=fun z=>by simp [ens]
   rw [set_cons_zero,e,e,he,Nat.zero_mul,Nat.zero_add,set_append_left _ _ (by rw [El.len,E];omega)]
 | x::A,h,i+1,f,y,D,u,hy,hf,he=>by
   have E:=h x (by simp);have e:∀ zs,ens (x::zs)=x.en++ens zs:=fun z=>by simp [ens]
   rw [set_cons_succ,e,e,aHb (fun x G=>h x (by simp [G]):Kds k A) (by simpa using hy) hf he,set_append_right _ _ (by rw [El.len,E,Nat.add_mul];omega),El.len,E,Nat.add_mul,Nat.one_mul,show i*k.sz+k.sz+f - k.sz=i*k.sz+f by omega]
abbrev Gk:=Nat->Option (KK × Nat × List El)
def Bk (w:World) (b:Nat) (k:KK) (m:Nat) (ys:List El):Prop:=
 ∃ arr mk,w.heap[b]?=some (.cells arr k.ty mk)/\arr.size=m*k.sz/\ys.length<=m/\(mk=(0,0)\/mk=(arr.size,arr.size+1))/\Kds k ys/\∀ (j:Nat) (u:Value),(ens ys)[j]?=some u->arr[j]?=some u
def MT (H:Nat) (Gq:Gk) (w:World):Prop:=∀ b k m ys,Gq b=some (k,m,ys)->H<=b/\Bk w b k m ys
def dF (Gq:Gk) (b:Nat) (x:KK × Nat × List El):Gk:=fun c=>if c=b then some x else Gq c
theorem dX (Gq:Gk) (b:Nat) (x:KK × Nat × List El):dF Gq b x b=some x:=by unfold dF;rw [if_pos rfl]
theorem bQ {Gq:Gk} {b c:Nat} {x:KK × Nat × List El} (h:c≠b):dF Gq b x c=Gq c:=by unfold dF;rw [if_neg h]
section
variable {H:Nat} {Gq:Gk} {w w':World}
theorem MT.lt (h:MT H Gq w) {b:Nat} {k:KK} {m:Nat} {ys:List El} (G:Gq b=some (k,m,ys)):H<=b/\b<w.heap.size:=by
 obtain ⟨A,E,I,D,_⟩:=h b k m ys G;exact ⟨A,(Array.getElem?_eq_some_iff.1 D).1⟩
theorem MT.kept (h:MT H Gq w) (G:∀ b,H<=b->b<w.heap.size->w'.heap[b]?=w.heap[b]?):MT H Gq w':=fun b k m I E=>by
 have O:=h.lt E;obtain ⟨D,A,J,M,N⟩:=h b k m I E;exact ⟨D,A,J,by rw [G b D O.2];exact M,N⟩
theorem MT.grown {r:Option Nat} (h:MT H Gq w) (g:w.grownBy w' r) (D:∀ x,r=some x->x<H):MT H Gq w':=
 h.kept fun b E A=>g.block b A (fun e=>by have:=D b e.symm;omega)
theorem MT.gone (h:MT H Gq w) {c:Nat} (A:w.heap.size<=c):Gq c=none:=by
 cases e:Gq c with
 | none=>rfl
 | some x=>
   obtain ⟨k,m,s⟩:=x;have:=(h.lt e).2;omega
theorem MT.bare (h:MT H Gq w) {b:Nat} {k:KK} {m:Nat} {A:List El} (I:Gq b=some (k,m,A)) {j:Nat} (J:j<m*k.sz):(w.cell? ⟨b,j,none⟩).isSome=true/\w.frozen? ⟨b,j,none⟩=false:=by
 obtain ⟨O,G,S,D,Y,M,E,N⟩:=h b k m A I;refine ⟨?_,?_⟩
 .rw [cell_of_row w b j _ _ _ D,Array.getElem?_eq_getElem (by omega)];rfl
 .simp only [frozen?,D];rcases E with rfl | rfl
  .simp
  .simp;omega
theorem MT.kds (h:MT H Gq w) {b:Nat} {k:KK} {m:Nat} {A:List El} (I:Gq b=some (k,m,A)):Kds k A/\A.length<=m:=by
 obtain ⟨_,G,J,_,_,D,_,E,_⟩:=h b k m A I;exact ⟨E,D⟩
theorem MT.cell (h:MT H Gq w) {b:Nat} {k:KK} {m:Nat} {A:List El} (I:Gq b=some (k,m,A)) {i f:Nat} {y:El} (J:A[i]?=some y) (N:f<k.sz):w.cell? ⟨b,i*k.sz+f,none⟩=y.en[f]?/\w.frozen? ⟨b,i*k.sz+f,none⟩=false:=by
 have hi:=(List.getElem?_eq_some_iff.1 J).1;obtain ⟨O,hm⟩:=h.kds I
 have D:i*k.sz+f<m*k.sz:=by
  have:=Nat.mul_le_mul_right k.sz (show i+1<=m by omega);rw [Nat.add_mul,Nat.one_mul] at this;omega
 have E:=(h.bare I D).2;obtain ⟨h1,S,mk,Y,h3,h4,h5,h6,Z⟩:=h b k m A I;have G:=O y (mem_of_getElem? J);obtain ⟨u,M⟩:∃ u,y.en[f]?=some u:=⟨_,getElem?_eq_getElem (by rw [El.len,G];exact N)⟩;refine ⟨?_,E⟩;rw [cell_of_row w b _ _ _ _ Y,M];exact Z _ u (by rw [aJ4 O J N];exact M)
theorem MT.put (h:MT H Gq w) {c:Nat} (I:H<=c) {k:KK} {m:Nat} {G:List El} (N:∀ b,b≠c->b<w.heap.size->w'.heap[b]?=w.heap[b]?) (Z:Bk w' c k m G):MT H (dF Gq c (k,m,G)) w':=fun b Y J D A=>by
 by_cases e:b=c
 .subst e;rw [dX] at A;cases A;exact ⟨I,Z⟩
 .rw [bQ e] at A;have hl:=h.lt A;obtain ⟨O,E,S,M,h3⟩:=h b Y J D A;exact ⟨O,E,S,by rw [N b e hl.2];exact M,h3⟩
theorem MT.new (h:MT H Gq w) (J:H<=w.heap.size) (k:KK) (m:Nat) (D:List El) (A:Array Value) (E:Nat × Nat) (M:A.size=m*k.sz) (N:E=(0,0)\/E=(A.size,A.size+1)) (S:D.length<=m) (G:Kds k D) (I:∀ (j:Nat) (u:Value),(ens D)[j]?=some u->A[j]?=some u) :
  MT H (dF Gq w.heap.size (k,m,D)) (w.alloc (.cells A k.ty E)):=
 h.put J (fun b _ O=>(grownBy_alloc w _ none).block b O (by simp)) ⟨A,E,heap_alloc_new w _,M,S,N,G,I⟩
theorem MT.set (h:MT H Gq w) {b:Nat} {k:KK} {m:Nat} {G:List El} (hb:Gq b=some (k,m,G)) {i f:Nat} {y y':El} {u:Value} (hy:G[i]?=some y) (hf:f<k.sz) (he:y'.en=y.en.set f u) (J:y'.kd=k):MT H (dF Gq b (k,m,G.set i y')) (w.setCell ⟨b,i*k.sz+f,none⟩ u):=by
 obtain ⟨h1,A,mk,N,Z,h4,Y,M,O⟩:=h b k m G hb;refine h.put h1 (fun c S _=>heap_setCell_other w ⟨b,i*k.sz+f,none⟩ c u S) ⟨A.setIfInBounds (i*k.sz+f) u,mk,?_,by simpa using Z,by simpa using h4,by simpa using Y,fun x I=>?_,fun j v E=>?_⟩
 .rw [setCell_eq_setRow w b (i*k.sz+f) A k.ty _ _ N];exact setRow_heap w b A _ k.ty _ N
 .rcases mem_or_eq_of_mem_set I with I | rfl
  .exact M x I
  .exact J
 .rw [aHb M hy hf he] at E;rw [Array.getElem?_setIfInBounds]
  by_cases e:i*k.sz+f=j
  .subst e;have D:=(List.getElem?_eq_some_iff.1 E).1;rw [length_set] at D;rw [getElem?_set_self D] at E;have h9:=O _ _ (getElem?_eq_getElem D);rw [if_pos rfl,if_pos (Array.getElem?_eq_some_iff.1 h9).1];exact E
  .rw [if_neg e];rw [getElem?_set_ne e] at E;exact O j v E
end
def Ful (Gq:Gk) (k:KK) (v:Sv) (ys:List El):Prop:=(v=aL/\ys=[])\/∃ b m,v=(some ⟨b,0,none⟩,ys.length,m)/\Gq b=some (k,m,ys)/\m<=maxLen
theorem vQ (b:Nat) (t:TypeId) (I:Nat × Nat):∀ (E:List Value) (o:Nat) (w:World) (A:Array Value),w.heap[b]?=some (.cells A t I)->o+E.length<=A.size->∃ D,(w.setCells b o E).heap[b]?=some (.cells D t I)/\D.size=A.size/\(∀ j,j<o->D[j]?=A[j]?)/\∀ j,j<E.length->D[o+j]?=E[j]?
 | [],o,w,A,h,_=>⟨A,h,rfl,fun _ _=>rfl,fun j G=>by simp at G⟩
 | u::E,o,w,A,h,hl=>by
   simp only [length_cons] at hl
   obtain ⟨D,O,N,J,M⟩:=vQ b t I E (o+1) (w.setCell ⟨b,o,none⟩ u) (A.setIfInBounds o u) (by
    rw [setCell_eq_setRow w b o A t _ _ h];exact setRow_heap w b A _ t _ h) (by simp;omega)
   refine ⟨D,O,by simpa using N,fun j G=>?_,fun j G=>?_⟩
   .rw [J j (by omega),Array.getElem?_setIfInBounds,if_neg (by omega)]
   .cases j with
    | zero=>rw [Nat.add_zero,J o (by omega),Array.getElem?_setIfInBounds,if_pos rfl,if_pos (by omega)];rfl
    | succ j=>
      have:=M j (by simpa using G);rw [show o+(j+1)=o+1+j by omega,this];simp
theorem rF (b:Nat) (x:Nat) (A:x≠b):∀ (h:List Value) (o:Nat) (w:World),(w.setCells b o h).heap[x]?=w.heap[x]?
 | [],_,_=>rfl
 | u::h,o,w=>(rF b x A h (o+1) _).trans (heap_setCell_other w ⟨b,o,none⟩ x u A)
theorem aLD:(prog.info? 96).map (fun i=>(i.zero,i.size,i.bytes))=some (some (.agg #[.bool false,.slice none 0 0]),2,32):=by kernel_rfl
theorem aKM:(prog.info? 49).map (fun i=>(i.zero,i.size,i.bytes))=some (some (.agg #[.int .i64 0,.slice none 0 0,.bool false,.slice none 0 0,.slice none 0 0,.slice none 0 0,.int .i64 0,.slice none 0 0]),8,144):=by kernel_rfl
theorem aDg (k:KK):∃ i z,prog.underlying k.sl=some (.slice k.ty)/\prog.info? k.ty=some i/\i.zero=some z/\i.size=k.sz/\i.bytes<=200/\z.cells.size=k.sz:=by
 cases k with
 | bs=>
   obtain ⟨i,D,h,A,E⟩:=info_parts mA;exact ⟨i,_,underlying22,D,h,A,by rw [E];omega,rfl⟩
 | is=>
   obtain ⟨i,D,h,A,E⟩:=info_parts aAp;exact ⟨i,_,underlying35,D,h,A,by rw [E];omega,rfl⟩
 | cm=>
   obtain ⟨i,D,h,A,E⟩:=info_parts aLD;exact ⟨i,_,underlying24,D,h,A,by rw [E];omega,rfl⟩
 | nd=>
   obtain ⟨i,D,h,A,E⟩:=info_parts aKM;exact ⟨i,_,underlying23,D,h,A,by rw [E];omega,rfl⟩
theorem MT.app {H:Nat} {Gq:Gk} {w:World} (h:MT H Gq w) (hH:H<=w.heap.size) {k:KK} {v:Sv} {D:List El} (hv:Ful Gq k v D) (b' o' c:Nat) (A:List El) (hq:0<A.length) (hk:Kds k A) (b7:∀ (j:Nat) (u:Value),(ens A)[j]?=some u->w.cell? ⟨b',o'+j,none⟩=some u) (hb:D.length+A.length<=1000000) :
  ∃ g m w',(Builtin.append_ #[k.sl,k.sl] k.sl #[v.v,.slice (some ⟨b',o',none⟩) A.length c]).run prog w=.ok (.slice (some ⟨g,0,none⟩) (D++A).length m) w'/\MT H (dF Gq g (k,m,D++A)) w'/\(g=w.heap.size\/(Gq g=some (k,m,D)/\v=(some ⟨g,0,none⟩,D.length,m)))/\H<=g/\m<=maxLen/\w.grownBy w' (some g):=by
 obtain ⟨i,z,hu,hi,hz,hs,c2,b3⟩:=aDg k;have f4:=k.pos;have G:∀ (j:Nat) (u:Value),(ens A)[j]?=some u->w.cell? ((⟨b',o',none⟩:Addr).add j)=some u:=fun j u E=>by rw [Addr.add_lit];exact b7 j u E
 have a0:=aDN hk;have a5:(ens A).length=A.length*i.size:=by rw [hs];exact a0
 have Z:∀ x,x<=1000000->x*i.bytes<=140737488355328:=fun x J=>by
  have:=Nat.mul_le_mul J c2;omega
 have gd:w.grownBy w.drew none:=⟨rfl,rfl,rfl,Nat.le_refl _,fun _ _ _=>rfl⟩
 have N:∀ (o:Obj),w.grownBy (w.drew.alloc o) (some w.heap.size):=fun o=>by
  have g:=aA gd (grownBy_alloc w.drew o none);exact ⟨g.os,g.tape,g.output,g.size,fun x J _=>g.block x J (by simp)⟩
 rcases hv with ⟨rfl,rfl⟩ | ⟨b,m,rfl,Y,d5⟩
 .have hr:=run_append_nil (P:=prog) w k.sl k.sl k.ty i z hu hi hz ⟨b',o',none⟩ A.length c (ens A) a5 G hq (by omega) (by have:=Z A.length (by omega);omega);have a8:=grownCap_ge w A.length 0 k.ty;have a7:grownCap w A.length 0 k.ty<=maxLen:=grownCap_le_maxLen w A.length 0 k.ty (by unfold maxLen;omega);have hd:MT H Gq w.drew:=h
  have hN:=hd.new hH k (grownCap w A.length 0 k.ty) A ((ens A).toArray++Builtin.zeroCells z.cells (grownCap w A.length 0 k.ty - A.length)) (0,0) (by rw [Array.size_append,size_zeroCells,b3];simp only [size_toArray,a0];rw [<- Nat.add_mul];congr 1;omega) (.inl rfl) a8 hk (fun j u E=>by
   rw [Array.getElem?_append_left (by simpa using (List.getElem?_eq_some_iff.1 E).1)];simpa using E)
  exact ⟨w.heap.size,_,_,hr,hN,.inl rfl,hH,a7,N _⟩
 .obtain ⟨c5,f5⟩:=h.kds Y;have S:=aDN c5
  by_cases I:D.length+A.length<=m
  .have b5:=Nat.mul_le_mul_right k.sz I;rw [Nat.add_mul] at b5;have O:∀ j,j<(ens A).length->(w.cell? ⟨b,0+D.length*i.size+j,none⟩).isSome=true/\w.frozen? ⟨b,0+D.length*i.size+j,none⟩=false:=fun j E=>h.bare Y (by rw [hs,Nat.zero_add];omega)
   have hr:=run_append_room_cells (P:=prog) w k.sl k.sl k.ty i hu hi b 0 D.length m ⟨b',o',none⟩ A.length c (ens A) a5 G (fun u hu=>by
    obtain ⟨e,_,he⟩:=mem_flatMap.1 hu;exact e.one u he) I (fun j E=>(O j E).1) (fun j E=>(O j E).2)
   rw [hs,Nat.zero_add] at hr;obtain ⟨h1,b2,mk,h2,h3,h4,h5,h6,h7⟩:=h b k m D Y;obtain ⟨b4,a1,a2,a3,a4⟩:=vQ b k.ty mk (ens A) (D.length*k.sz) w b2 h2 (by rw [h3];omega);refine ⟨b,m,_,by rw [length_append];exact hr,h.put h1 (fun x J _=>rF b x J _ _ _) ⟨b4,mk,a1,by rw [a2];exact h3,by rw [length_append];exact I,by rw [a2];exact h5,fun y M=>?_,fun j u E=>?_⟩,.inr ⟨Y,rfl⟩,h1,d5,?_⟩
   .rcases mem_append.1 M with M | M
    .exact h6 y M
    .exact hk y M
   .rw [aGA] at E
    by_cases b6:j<D.length*k.sz
    .rw [getElem?_append_left (by rw [S];exact b6)] at E;rw [a3 j b6];exact h7 j u E
    .rw [getElem?_append_right (by rw [S];omega),S] at E;have:=a4 _ (List.getElem?_eq_some_iff.1 E).1;rw [show D.length*k.sz+(j - D.length*k.sz)=j by omega] at this;rw [this];exact E
   .have hB:∀ (us:List Value) (o:Nat) (x:World),w.grownBy x (some b)->w.grownBy (x.setCells b o us) (some b):=fun us=>by
     induction us with
     | nil=>intro o x J;exact J
     | cons u us ih=>
       intro o x J;refine ih (o+1) _ ⟨J.os,J.tape,J.output,by simpa using J.size,fun y M hn=>?_⟩;rw [heap_setCell_other x ⟨b,o,none⟩ y u (fun e=>hn (by rw [e]))];exact J.block y M hn
    exact hB _ _ w (grownBy.refl _ _)
  .obtain ⟨h1,b2,mk,h2,h3,h4,h5,h6,h7⟩:=h b k m D Y;have c7:(ens D).length=D.length*i.size:=(by rw [hs];exact S);have hr:=run_append_grow (P:=prog) w k.sl k.sl k.ty i z hu hi hz ⟨b,0,none⟩ D.length m (ens D) c7 (fun j u E=>by rw [Addr.add_lit,Nat.zero_add,cell_of_row w b j _ _ _ h2];exact h7 j u E) ⟨b',o',none⟩ A.length c (ens A) a5 G (by omega) (by omega) (growslice_fits (by omega) (Z _ hb));have a8:=grownCap_ge w (D.length+A.length) m k.ty;have a7:grownCap w (D.length+A.length) m k.ty<=maxLen:=grownCap_le_maxLen w (D.length+A.length) m k.ty (by unfold maxLen;omega);have hd:MT H Gq w.drew:=h;have d0:(ens D++ens A).length=(D.length+A.length)*k.sz:=by rw [length_append,S,a0,Nat.add_mul]
   have hN:=hd.new hH k (grownCap w (D.length+A.length) m k.ty) (D++A) ((ens D++ens A).toArray++Builtin.zeroCells z.cells (grownCap w (D.length+A.length) m k.ty - (D.length+A.length))) (0,0)
    (by rw [Array.size_append,size_zeroCells,b3];simp only [size_toArray,d0];rw [<- Nat.add_mul];congr 1;omega) (.inl rfl) (by rw [length_append];exact a8) (fun y M=>by
     rcases mem_append.1 M with M | M
     .exact h6 y M
     .exact hk y M) (fun j u E=>by
     rw [aGA] at E;rw [Array.getElem?_append_left (by simpa using (List.getElem?_eq_some_iff.1 E).1)];simpa using E)
   rw [show (ens D).toArray++(ens A).toArray=(ens D++ens A).toArray by simp] at hr;exact ⟨w.heap.size,_,_,by rw [length_append];exact hr,hN,.inl rfl,hH,a7,N _⟩
def nxD (zs:List Int) (i:Nat):Int × Nat:=if i<zs.length then (zs[i]?.getD 0,i+1) else (0,i)
theorem jA {zs} (h:Bys zs) (i):0<=(nxD zs i).1/\(nxD zs i).1<=255:=by
 unfold nxD;split
 .exact h.get i
 .simp
theorem aLL {zs:List Int} {i:Nat} (h:i<=zs.length):(nxD zs i).2<=zs.length:=by
 unfold nxD;split<;>simp only<;>omega
def Rdr (F:Nat) (w:World) (vb:Value) (i:Int):Prop:=w.heap[F]?=some (.cells #[vb,.int .i64 i] 80 (0,0))
theorem Rdr.c0 {F w A i} (h:Rdr F w A i):w.cell? ⟨F,0,none⟩=some A:=by rw [cell_of_row w F 0 _ _ _ h];rfl
theorem Rdr.c1 {F w A i} (h:Rdr F w A i):w.cell? ⟨F,1,none⟩=some (.int .i64 i):=by rw [cell_of_row w F 1 _ _ _ h];rfl
theorem Rdr.fr {F w A i} (h:Rdr F w A i) (j:Nat):w.frozen? ⟨F,j,none⟩=false:=frozen_of_row w F j _ _ h
theorem Rdr.set1 {F w A i} {q:Int} (h:Rdr F w A i):Rdr F (w.setCell ⟨F,1,none⟩ (.int .i64 q)) A q:=heap_setCell_same w F 1 _ _ _ h
theorem Rdr.lt {F w A i} (h:Rdr F w A i):F<w.heap.size:=(Array.getElem?_eq_some_iff.1 h).1
theorem Rdr.kept {F w w' E i A} (h:Rdr F w E i) (G:w.grownBy w' A) (D:some F≠A):Rdr F w' E i:=(G.block F h.lt D).trans h
theorem aGb (w:World) (F j:Nat) (v):w.grownBy (w.setCell ⟨F,j,none⟩ v) (some F):=
 ⟨rfl,rfl,rfl,by simp,fun k _ h=>heap_setCell_other w ⟨F,j,none⟩ k v (fun e=>h (by simp [e]))⟩
theorem aFF {a:World} {b} (h:a.grownBy b none) (r):a.grownBy b r:=⟨h.os,h.tape,h.output,h.size,fun k A _=>h.block k A (by simp)⟩
theorem aAT (F:Nat) (v:Value) (zs:List Int) (i:Nat) (w:World) (E:Rdr F w v i) (hv:RdB F w v zs) (J:Bys zs) (hm:zs.length<=4194304) (hi:i<=zs.length) :
  Calls prog 32 #[.pointer (some ⟨F,0,none⟩)] w fun e w'=>e=.returned (.int .i64 (nxD zs i).1)/\Rdr F w' v ((nxD zs i).2:Int)/\w.grownBy w' (some F):=by
 obtain ⟨a,O,rfl,M⟩:=hv;have q0:=E.c0;have q1:=E.c1;have r1:=E.fr 1;have S:Hid (Rdr F w (.slice a zs.length O) i):=E;clear E
 by_cases A:i<zs.length
 .have D:Hid (nxD zs i=(zs[i]?.getD 0,i+1)):=(by unfold Hid nxD;rw [if_pos A]);obtain ⟨b,a0,rfl,hb,I⟩:=M (fun h=>by simp [h] at A);have N:=I i A;have G:=J.get i;generalize zs[i]?.getD 0=z at N G D;have Y:(i:Int)<(zs.length:Int):=(by omega);have a1:¬ b=F:=(by omega);obtain ⟨Z,a3⟩:=G;clear M I
  go_enter func32,ntmps32
  go_wp2
  go_quiet (fail)
  go_wp2
  go_quiet (fail)
  go_wp2;go_ret;refine ⟨by rw [D.out];rfl,?_,?_⟩
  .rw [D.out];exact S.out.set1
  .exact aA (aFF (cA (grownBy.refl w none) _) _) (aGb _ F 1 _)
 .have D:Hid (nxD zs i=(0,i)):=(by unfold Hid nxD;rw [if_neg A]);clear M
  go_enter func32,ntmps32
  go_wp2
  go_quiet (fail)
  go_wp2;go_ret;refine ⟨by rw [D.out];rfl,?_,?_⟩
  .rw [D.out];exact S.out
  .exact cA (grownBy.refl _ _) _
theorem aF5 (a:Option Addr) (A:Nat) (zs:List Int) (w) (I:zs.length<=1048576) (G:zs.length<=A) (E:A<=9223372036854775807) :
  Calls prog 11 #[.slice a zs.length A] w fun e w'=>e=.returned (.pointer (some ⟨w.heap.size,0,none⟩))/\w.alloc (.cells #[.slice a (min 500 zs.length) A,.int .i64 0] 80)=w':=by
 by_cases h:500<zs.length
 .have D:Hid (min 500 zs.length=500):=by unfold Hid;omega
  go_enter func11,ntmps11
  go_wp2;go_ret;exact ⟨rfl,by rw [D.out]⟩
 .have D:Hid (min 500 zs.length=zs.length):=by unfold Hid;omega
  go_enter func11,ntmps11
  go_wp2;go_ret;exact ⟨rfl,by rw [D.out]⟩
def aAk:List Int:=[0,9,10,13,31,32,34,39,92,47,42,127,128,160,233,2047,2048,8232,8233,65279,65535,65536,128512,1114111,48,57,110,117,120,36]
def aBx:List Int:=[55296,56319,56320,57343]
def dpV (sur:Bool) (k:Int):Int:=if k<150 then 97+k%20 else if k<240 then aAk.getD (k%30).toNat 0 else if sur then aBx.getD (k%4).toNat 0 else 945+k%16
def dp (zs:List Int) (sur:Bool) (i:Nat):Int × Nat:=(dpV sur (nxD zs i).1,(nxD zs i).2)
theorem aEn (W:World) (L:List Int) (t:TypeId) (j:Nat) (D:j<L.length) (A:Array Value) (h:A=(L.map (Value.int .i64)).toArray) :
  (W.alloc (.cells A t)).cell? ⟨W.heap.size,j,none⟩=some (.int .i64 (L.getD j 0)):=by
 rw [cell_of_row (W.alloc (.cells A t)) W.heap.size j A t (0,0) (heap_alloc_new W _),h];simp [D]
theorem aMA (j:Nat):0<=aAk.getD j 0/\aAk.getD j 0<=1114111:=by
 by_cases h:j<30
 .have:∀ m:Nat,m<30->0<=aAk.getD m 0/\aAk.getD m 0<=1114111:=by decide
  exact this j h
 .rw [getD_eq_getElem?_getD,getElem?_eq_none (by simp [aAk];omega)];simp
theorem aML (j:Nat):0<=aBx.getD j 0/\aBx.getD j 0<=1114111:=by
 by_cases h:j<4
 .have:∀ m:Nat,m<4->0<=aBx.getD m 0/\aBx.getD m 0<=1114111:=by decide
  exact this j h
 .rw [getD_eq_getElem?_getD,getElem?_eq_none (by simp [aBx];omega)];simp
theorem aLN (h) (k:Int) (_h0:0<=k):0<=dpV h k/\dpV h k<=1114111:=by
 unfold dpV
 split
 .omega
 .split
  .exact aMA _
  .split
   .exact aML _
   .omega
theorem aBH (F:Nat) (v:Value) (zs:List Int) (i:Nat) (A:Bool) (w:World) (hF:Rdr F w v i) (hv:RdB F w v zs) (N:Bys zs) (hm:zs.length<=4194304) (hi:i<=zs.length) :
  Calls prog 145 #[.pointer (some ⟨F,0,none⟩),.bool A] w fun e w'=>e=.returned (.int .i64 (dp zs A i).1)/\Rdr F w' v ((dp zs A i).2:Int)/\w.grownBy w' (some F):=by
 have a2:∀ (x:Bool) (w:World),(Op.unary .not (.bool x)).run prog w=.ok (.bool (!x)) w:=fun _ _=>rfl;have O:=jA N i;have E:=aAT F v zs i w hF hv N hm hi;have G:Hid (dp zs A i=(dpV A (nxD zs i).1,(nxD zs i).2)):=rfl;generalize (nxD zs i).1=k at O E G;generalize (nxD zs i).2=j at E G;obtain ⟨a5,a4⟩:=O;clear hF hv
 by_cases S:k<150
 .have J:Hid (dpV A k=97+k%20):=by unfold Hid dpV;rw [if_pos S]
  go_enter func145,ntmps145
  go_wp2_with (go_at_call 32;refine E.mono ?_;rintro e w1 ⟨rfl,M,I⟩)
  go_ret;exact ⟨by rw [G.out,J.out];rfl,by rw [G.out];exact M,I⟩
 .by_cases Z:k<240
  .have J:Hid (dpV A k=aAk.getD (k%30).toNat 0):=(by unfold Hid dpV;rw [if_neg S,if_pos Z]);have h:=fun W=>aEn W aAk 3 (k%30).toNat (by simp [aAk];omega) _ rfl;unfold aAk at h;simp only [map_cons,map_nil] at h;generalize D:[0,9,10,13,31,32,34,39,92,47,42,127,128,160,233,2047,2048,8232,8233,65279,65535,65536,128512,1114111,48,57,110,117,120,36].getD (k%30).toNat (0:Int)=y at h;have Y:Hid (aAk.getD (k%30).toNat 0=y):=D;clear D
   go_enter func145,ntmps145
   go_wp2_with (go_at_call 32;refine E.mono ?_;rintro e w1 ⟨rfl,M,I⟩)
   go_ret;exact ⟨by rw [G.out,J.out,Y.out];rfl,by rw [G.out];exact M.kept (grownBy_alloc _ _ none) (by simp),aA I gWA⟩
  .cases A
   .have J:Hid (dpV false k=945+k%16):=by unfold Hid dpV;rw [if_neg S,if_neg Z];rfl
    go_enter func145,ntmps145
    go_wp2_with (go_at_call 32;refine E.mono ?_;rintro e w1 ⟨rfl,M,I⟩)
    go_ret;exact ⟨by rw [G.out,J.out];rfl,by rw [G.out];exact M.kept (grownBy_alloc _ _ none) (by simp),aA I gWA⟩
   .have J:Hid (dpV true k=aBx.getD (k%4).toNat 0):=(by unfold Hid dpV;rw [if_neg S,if_neg Z];rfl);have h:=fun (w1:World) (o:Obj)=>aEn (w1.alloc o) aBx 3 (k%4).toNat (by simp [aBx];omega) _ rfl;unfold aBx at h;simp only [map_cons,map_nil,size_alloc] at h;generalize D:[55296,56319,56320,57343].getD (k%4).toNat (0:Int)=y at h;have Y:Hid (aBx.getD (k%4).toNat 0=y):=D;clear D
    go_enter func145,ntmps145
    go_wp2_with (go_at_call 32;refine E.mono ?_;rintro e w1 ⟨rfl,M,I⟩)
    go_ret;exact ⟨by rw [G.out,J.out,Y.out];rfl,by rw [G.out];exact (M.kept (grownBy_alloc _ _ none) (by simp)).kept (grownBy_alloc _ _ none) (by simp),aA (aA I gWA) gWA⟩
structure Zk (zs:List Int):Prop where
 by':Bys zs
 ln:zs.length<=4194304
structure KS (F:Nat) (v:Value) (zs:List Int) (i:Nat) (Gq:Gk) (w:World):Prop where
 mt:MT (F+1) Gq w
 rd:Rdr F w v (i:Int)
 le:i<=zs.length
 tx:RdB F w v zs
def Gex (Gq Gq':Gk):Prop:=∀ b x,Gq b=some x->Gq' b=some x
theorem Gex.refl (Gq:Gk):Gex Gq Gq:=fun _ _ h=>h
theorem Gex.upd {A B:Gk} (h:Gex A B) {g:Nat} {x:KK × Nat × List El} (E:A g=none):Gex A (dF B g x):=fun b y D=>by
 rw [bQ (fun e=>by rw [e,E] at D;cases D)];exact h b y D
def Gnw (n:Nat) (Gq Gq':Gk):Prop:=∀ b,b<n->Gq' b=Gq b
theorem Gnw.upd {n:Nat} {A B:Gk} (h:Gnw n A B) {g:Nat} {x:KK × Nat × List El} (E:n<=g):Gnw n A (dF B g x):=fun b D=>by
 rw [bQ (by omega)];exact h b D
structure KD (F:Nat) (v:Value) (zs:List Int) (Gq:Gk) (w:World) (j:Nat) (Gq':Gk) (w':World):Prop where
 st:KS F v zs j Gq' w'
 nw:Gnw w.heap.size Gq Gq'
 gr:w.grownBy w' (some F)
 no:∀ g,w.heap.size<=g->Gq g=none
 lt:F+1<=w.heap.size
section
variable {F:Nat} {v:Value} {zs:List Int} {i j:Nat} {Gq Gq1 Gq2:Gk} {w w1 w2:World}
theorem KS.lt (h:KS F v zs i Gq w):F+1<=w.heap.size:=h.rd.lt
theorem KD.ex (h:KD F v zs Gq w i Gq1 w1):Gex Gq Gq1:=fun b x A=>by
 by_cases D:b<w.heap.size
 .rw [h.nw b D];exact A
 .rw [h.no b (by omega)] at A;cases A
theorem KD.refl (h:KS F v zs i Gq w):KD F v zs Gq w i Gq w:=⟨h,fun _ _=>rfl,grownBy.refl _ _,fun _ A=>h.mt.gone A,h.lt⟩
theorem aHk {a b c:World} {r:Option Nat} (h:a.grownBy b r) (A:b.grownBy c r):a.grownBy c r:=⟨A.os.trans h.os,A.tape.trans h.tape,A.output.trans h.output,Nat.le_trans h.size A.size,fun k D E=>(A.block k (Nat.lt_of_lt_of_le D h.size) E).trans (h.block k D E)⟩
theorem KD.trans (h:KD F v zs Gq w i Gq1 w1) (A:KD F v zs Gq1 w1 j Gq2 w2):KD F v zs Gq w j Gq2 w2:=⟨A.st,fun b D=>(A.nw b (Nat.lt_of_lt_of_le D h.gr.size)).trans (h.nw b D),aHk h.gr A.gr,h.no,h.lt⟩
theorem KD.turn (h:KD F v zs Gq w i Gq1 w1) {r:Option Nat} (I:MT (F+1) Gq2 w2) (g:w1.grownBy w2 r) (A:∀ b,r=some b->w.heap.size<=b) (E:Gnw w.heap.size Gq Gq2):KD F v zs Gq w i Gq2 w2:=by
 have J:=h.lt;refine ⟨⟨I,h.st.rd.kept g (fun e=>by have:=A F e.symm;omega),h.st.le,h.st.tx.beside g (fun b e=>by have:=A b e;omega)⟩,E,⟨g.os.trans h.gr.os,g.tape.trans h.gr.tape,g.output.trans h.gr.output,Nat.le_trans h.gr.size g.size,fun k D G=>?_⟩,h.no,h.lt⟩;rw [g.block k (Nat.lt_of_lt_of_le D h.gr.size) (fun e=>by have:=A k e.symm;omega)];exact h.gr.block k D G
theorem KD.K (h:KD F v zs Gq w i Gq1 w1) (g:w1.grownBy w2 none):KD F v zs Gq w i Gq1 w2:=h.turn (h.st.mt.grown g (fun x e=>by cases e)) g (fun b e=>by cases e) h.nw
theorem KD.new (h:KD F v zs Gq w i Gq1 w1) (k:KK) (m:Nat) (D:List El) (A:Array Value) (E:Nat × Nat) (J:A.size=m*k.sz) (M:E=(0,0)\/E=(A.size,A.size+1)) (N:D.length<=m) (G:Kds k D) (I:∀ (j:Nat) (u:Value),(ens D)[j]?=some u->A[j]?=some u) :
  KD F v zs Gq w i (dF Gq1 w1.heap.size (k,m,D)) (w1.alloc (.cells A k.ty E)):=
 h.turn (h.st.mt.new (Nat.le_trans h.lt h.gr.size) k m D A E J M N G I) (grownBy_alloc _ _ none) (fun b e=>by cases e) (h.nw.upd h.gr.size)
theorem KD.new1 (h:KD F v zs Gq w i Gq1 w1) (e:El) (A:Array Value) (E:A=e.en.toArray):KD F v zs Gq w i (dF Gq1 w1.heap.size (e.kd,1,[e])) (w1.alloc (.cells A e.kd.ty)):=by
 subst E;refine h.new e.kd 1 [e] _ (0,0) (by simp [El.len]) (.inl rfl) (Nat.le_refl _) (fun y D=>by simp at D;rw [D]) (fun j u G=>by simpa [ens] using G)
theorem KD.set (h:KD F v zs Gq w i Gq1 w1) {b:Nat} {k:KK} {m:Nat} {D:List El} (N:Gq1 b=some (k,m,D)) (A:w.heap.size<=b) {q f:Nat} {y y':El} {u:Value} (I:D[q]?=some y) (G:f<k.sz) (J:y'.en=y.en.set f u) (E:y'.kd=k):KD F v zs Gq w i (dF Gq1 b (k,m,D.set q y')) (w1.setCell ⟨b,q*k.sz+f,none⟩ u):=
 h.turn (r:=some b) (h.st.mt.set N I G J E) ⟨rfl,rfl,rfl,by simp,fun x _ M=>heap_setCell_other w1 ⟨b,q*k.sz+f,none⟩ x u (fun e=>M (by rw [e]))⟩ (fun x e=>by cases e;exact A) (h.nw.upd A)
theorem KD.off (h:KD F v zs Gq w i Gq1 w1) {b:Nat} (S:Gq1 b=none) (D:w.heap.size<=b) (j:Nat) (u:Value):KD F v zs Gq w i Gq1 (w1.setCell ⟨b,j,none⟩ u):=
 h.turn (r:=some b) (fun c k m G A=>by
  obtain ⟨M,E,N,I,O⟩:=h.st.mt c k m G A;exact ⟨M,E,N,by rw [heap_setCell_other w1 ⟨b,j,none⟩ c u (fun e=>by rw [e,S] at A;cases A)];exact I,O⟩) ⟨rfl,rfl,rfl,by simp,fun x _ J=>heap_setCell_other w1 ⟨b,j,none⟩ x u (fun e=>J (by rw [e]))⟩ (fun x e=>by cases e;exact D) h.nw
def Lo (B:Nat) (v:Sv):Prop:=∀ a,v.1=some a->B<=a.block
theorem Lo.nil (B:Nat):Lo B aL:=fun a h=>by cases h
theorem Lo.mono {B A:Nat} {v:Sv} (h:Lo B v) (E:A<=B):Lo A v:=fun a D=>Nat.le_trans E (h a D)
theorem KD.apps (h:KD F v zs Gq w i Gq1 w1) {k:KK} {o:Sv} {D:List El} (Y:Ful Gq1 k o D) (M:Lo w.heap.size o) (J N c:Nat) (A:List El) (hq:0<A.length) (S:Kds k A) (E:∀ (j:Nat) (u:Value),(ens A)[j]?=some u->w1.cell? ⟨J,N+j,none⟩=some u) (hb:D.length+A.length<=1000000) :
  ∃ g m w',(Builtin.append_ #[k.sl,k.sl] k.sl #[o.v,.slice (some ⟨J,N,none⟩) A.length c]).run prog w1=.ok (.slice (some ⟨g,0,none⟩) (D++A).length m) w'/\KD F v zs Gq w i (dF Gq1 g (k,m,D++A)) w'/\(g=w1.heap.size\/(Gq1 g=some (k,m,D)/\o=(some ⟨g,0,none⟩,D.length,m)))/\w.heap.size<=g/\m<=maxLen/\w1.grownBy w' (some g):=by
 obtain ⟨g,m,w',h1,h2,G,h4,Z,O⟩:=h.st.mt.app (Nat.le_trans h.lt h.gr.size) Y J N c A hq S E hb
 have I:w.heap.size<=g:=by
  rcases G with rfl | ⟨_,G⟩
  .exact h.gr.size
  .exact M ⟨g,0,none⟩ (by rw [G])
 exact ⟨g,m,w',h1,h.turn h2 O (fun b e=>by cases e;exact I) (h.nw.upd I),G,I,Z,O⟩
theorem KS.next (h:KS F v zs i Gq w) (A:Zk zs):Calls prog 32 #[.pointer (some ⟨F,0,none⟩)] w fun e w'=>e=.returned (.int .i64 (nxD zs i).1)/\KD F v zs Gq w (nxD zs i).2 Gq w':=by
 refine (aAT F v zs i w h.rd h.tx A.by' A.ln h.le).mono ?_;rintro e w' ⟨rfl,f,g⟩;exact ⟨rfl,⟨h.mt.grown g (fun x e=>by cases e;omega),f,aLL h.le,h.tx.beside g (fun x e=>by cases e;omega)⟩,fun _ _=>rfl,g,fun _ D=>h.mt.gone D,h.lt⟩
theorem KD.next (h:KD F v zs Gq w i Gq1 w1) (D:Zk zs):Calls prog 32 #[.pointer (some ⟨F,0,none⟩)] w1 fun e w'=>e=.returned (.int .i64 (nxD zs i).1)/\KD F v zs Gq w (nxD zs i).2 Gq1 w'/\w1.grownBy w' (some F):=by
 refine (h.st.next D).mono ?_;rintro e w' ⟨rfl,A⟩;exact ⟨rfl,h.trans A,A.gr⟩
theorem KS.left (h:KS F v zs i Gq w) (E:Zk zs):Calls prog 73 #[.pointer (some ⟨F,0,none⟩)] w fun e w'=>e=.returned (.int .i64 ((zs.length - i:Nat):Int))/\w.grownBy w' none:=by
 have N:=h.rd.c0;have M:=h.rd.c1;have I:=E.ln;have J:=h.le;obtain ⟨a,G,D,A⟩:=h.tx;subst D;clear A h
 go_enter func73,ntmps73
 go_wp2
 go_quiet (fail)
 go_wp2;go_ret;exact ⟨by go_num,cA (grownBy.refl _ _) _⟩
end
abbrev Rk:=KK->Sv->List El->Prop
def Pre (Gq:Gk):Rk:=fun k v ys=>(v=aL/\ys=[])\/∃ b m zs,v=(some ⟨b,0,none⟩,ys.length,m)/\Gq b=some (k,m,zs)/\ys <+: zs/\m<=maxLen
theorem Ful.pre {Gq:Gk} {k:KK} {v:Sv} {A:List El} (h:Ful Gq k v A):Pre Gq k v A:=by
 rcases h with h | ⟨b,m,G,D,E⟩
 .exact .inl h
 .exact .inr ⟨b,m,A,G,D,prefix_refl _,E⟩
section
variable (R:Rk)
def JB (v:Sv) (t:List Int):Prop:=R .bs v (t.map .b)
def JI (v:Sv) (t:List Int):Prop:=R .is v (t.map .i)
def J1:El->Cm->Prop
 | .c x t,c=>x=c.b/\JB R t c.t
 | _,_=>False
def Js {α:Type} (P:El->α->Prop):List El->List α->Prop
 | [],[]=>True
 | e::els,c::cs=>P e c/\Js P els cs
 | _,_=>False
def JC (v:Sv) (cs:List Cm):Prop:=∃ els,R .cm v els/\Js (J1 R) els cs
def JD:El->Nod->Prop
 | .d k l m y x u n t,p=>(k=p.k/\m=p.mem/\n=p.C)/\JC R l p.L/\JI R y p.key/\JB R x p.X/\JI R u p.U/\JC R t p.tail
 | _,_=>False
def JN (v:Sv) (ns:List Nod):Prop:=∃ els,R .nd v els/\Js (JD R) els ns
end
section
variable {R R':Rk}
theorem Js.mono {α:Type} {P E:El->α->Prop} (h:∀ e c,P e c->E e c):∀ {A:List El} {D:List α},Js P A D->Js E A D
 | [],[],_=>trivial
 | _::_,_::_,⟨h1,h2⟩=>⟨h _ _ h1,Js.mono h h2⟩
 | [],_::_,h'=>h'.elim
 | _::_,[],h'=>h'.elim
theorem Js.app {α:Type} {P:El->α->Prop} : ∀ {A els':List El} {D cs':List α},Js P A D->Js P els' cs'->Js P (A++els') (D++cs')
 | [],_,[],_,_,h'=>h'
 | _::_,_,_::_,_,⟨h1,h2⟩,h'=>⟨h1,Js.app h2 h'⟩
 | [],_,_::_,_,h,_=>h.elim
 | _::_,_,[],_,h,_=>h.elim
theorem Js.len {α:Type} {P:El->α->Prop} : ∀ {h:List El} {A:List α},Js P h A->h.length=A.length
 | [],[],_=>rfl
 | _::_,_::_,⟨_,h2⟩=>by simp [Js.len h2]
 | [],_::_,h'=>h'.elim
 | _::_,[],h'=>h'.elim
theorem Js.at {α:Type} {P:El->α->Prop} : ∀ {els:List El} {h:List α},Js P els h->∀ {j:Nat} {c:α},h[j]?=some c->∃ e,els[j]?=some e/\P e c
 | [],[],_,j,c,hc=>by simp at hc
 | e::els,c'::h,⟨h1,h2⟩,0,c,hc=>by simp at hc;subst hc;exact ⟨e,rfl,h1⟩
 | e::els,c'::h,⟨h1,h2⟩,j+1,c,hc=>by
   obtain ⟨D,A,E⟩:=Js.at h2 (j:=j) (c:=c) (by simpa using hc);exact ⟨D,by simpa using A,E⟩
 | [],_::_,h',_,_,_=>h'.elim
 | _::_,[],h',_,_,_=>h'.elim
theorem Js.set {α:Type} {P:El->α->Prop} : ∀ {A:List El} {D:List α},Js P A D->∀ (j:Nat) {e:El} {c:α},P e c->Js P (A.set j e) (D.set j c)
 | [],[],_,_,_,_,_=>trivial
 | _::_,_::_,⟨_,h2⟩,0,_,_,h=>⟨h,h2⟩
 | _::_,_::_,⟨h1,h2⟩,j+1,_,_,h=>⟨h1,Js.set h2 j h⟩
 | [],_::_,h',_,_,_,_=>h'.elim
 | _::_,[],h',_,_,_,_=>h'.elim
theorem Js.take {α:Type} {P:El->α->Prop} : ∀ {h:List El} {A:List α},Js P h A->∀ (j:Nat),Js P (h.take j) (A.take j)
 | [],[],_,j=>by simp;exact trivial
 | _::_,_::_,_,0=>trivial
 | _::_,_::_,⟨h1,h2⟩,j+1=>⟨h1,Js.take h2 j⟩
 | [],_::_,h',_=>h'.elim
 | _::_,[],h',_=>h'.elim
theorem J1.mono (h:∀ v A,R .bs v A->R' .bs v A):∀ {e:El} {c:Cm},J1 R e c->J1 R' e c
 | .c _ _,_,⟨h1,h2⟩=>⟨h1,h _ _ h2⟩
 | .b _,_,h'=>h'.elim
 | .i _,_,h'=>h'.elim
 | .d _ _ _ _ _ _ _ _,_,h'=>h'.elim
theorem JC.mono (h:∀ v A,R .bs v A->R' .bs v A) (M:∀ v A,R .cm v A->R' .cm v A) {v:Sv} {E:List Cm} (G:JC R v E):JC R' v E:=by
 obtain ⟨D,J,I⟩:=G;exact ⟨D,M _ _ J,I.mono (fun e c=>J1.mono h)⟩
structure Rle (R R':Rk):Prop where
 b:∀ v ys,R .bs v ys->R' .bs v ys
 i:∀ v ys,R .is v ys->R' .is v ys
 c:∀ v ys,R .cm v ys->R' .cm v ys
theorem JD.mono (h:Rle R R'):∀ {e:El} {p:Nod},JD R e p->JD R' e p
 | .d _ _ _ _ _ _ _ _,_,⟨h1,h2,h3,h4,h5,h6⟩=>⟨h1,h2.mono h.b h.c,h.i _ _ h3,h.b _ _ h4,h.i _ _ h5,h6.mono h.b h.c⟩
 | .b _,_,h'=>h'.elim
 | .i _,_,h'=>h'.elim
 | .c _ _,_,h'=>h'.elim
end
section
variable {Gq Gq':Gk}
theorem Ful.same {k:KK} {v:Sv} {A:List El} (h:Ful Gq k v A) (D:∀ b x,Gq b=some (k,x)->Gq' b=some (k,x)):Ful Gq' k v A:=by
 rcases h with h | ⟨b,m,E,G,I⟩
 .exact .inl h
 .exact .inr ⟨b,m,E,D b _ G,I⟩
theorem Gex.rle (h:Gex Gq Gq'):Rle (Ful Gq) (Ful Gq'):=⟨fun _ _ A=>A.same (fun b _=>h b _),fun _ _ A=>A.same (fun b _=>h b _),fun _ _ A=>A.same (fun b _=>h b _)⟩
theorem Gex.ful (h:Gex Gq Gq') {k:KK} {v:Sv} {A:List El} (D:Ful Gq k v A):Ful Gq' k v A:=D.same (fun b _=>h b _)
theorem aFY {g:Nat} {x:Nat × List El} (E:∀ k y,Gq g=some (k,y)->k=.nd):Rle (Ful Gq) (Ful (dF Gq g (.nd,x))):=by
 have:∀ k,k≠KK.nd->∀ b y,Gq b=some (k,y)->dF Gq g (.nd,x) b=some (k,y):=fun k D b y A=>by
  rw [bQ]
  .exact A
  .intro e;subst e;exact D (E _ _ A)
 exact ⟨fun _ _ h=>h.same (this _ (by simp)),fun _ _ h=>h.same (this _ (by simp)),fun _ _ h=>h.same (this _ (by simp))⟩
theorem Ful.beside {k:KK} {v:Sv} {A:List El} (h:Ful Gq k v A) {g:Nat} {x:KK × Nat × List El} (E:∀ y,Gq g≠some (k,y)):Ful (dF Gq g x) k v A:=h.same fun b y D=>by
 rw [bQ]
 .exact D
 .intro e;subst e;exact E _ D
theorem Pre.rle (Gq:Gk):Rle (Ful Gq) (Pre Gq):=⟨fun _ _ h=>h.pre,fun _ _ h=>h.pre,fun _ _ h=>h.pre⟩
theorem Pre.longer {k N:KK} {v:Sv} {I:List El} (h:Pre Gq k v I) {g m:Nat} {zs D:List El} (A:Gq g=none\/Gq g=some (N,m,zs)):Pre (dF Gq g (N,m,zs++D)) k v I:=by
 rcases h with h | ⟨b,S,G,M,E,O,J⟩
 .exact .inl h
 .by_cases e:b=g
  .subst e;rcases A with A | A
   .rw [A] at E;cases E
   .rw [A] at E;cases E;exact .inr ⟨b,m,zs++D,M,dX _ _ _,O.trans (prefix_append _ _),J⟩
  .exact .inr ⟨b,S,G,M,by rw [bQ e];exact E,O,J⟩
end
section
variable {H:Nat} {Gq:Gk} {w:World}
theorem mM {k:KK} {b m:Nat} {h zs:List El} (G:MT H Gq w) (I:Gq b=some (k,m,zs)) (E:h <+: zs) {j f:Nat} {y:El} (A:h[j]?=some y) (D:f<k.sz):w.cell? ⟨b,j*k.sz+f,none⟩=y.en[f]?:=by
 obtain ⟨r,rfl⟩:=E;exact (G.cell I (by rw [getElem?_append_left (List.getElem?_eq_some_iff.1 A).1];exact A) D).1
theorem aAc {k:KK} {v:Sv} {A:List El} (h:Pre Gq k v A) (E:MT H Gq w):Sl v.v A.length:=by
 rcases h with ⟨rfl,rfl⟩ | ⟨b,m,zs,rfl,G,I,D⟩
 .exact ⟨none,0,rfl,Nat.le_refl _,by unfold maxLen;omega⟩
 .have:=(E.kds G).2;have:=I.length_le;exact ⟨_,m,rfl,by omega,D⟩
theorem JB.rd {v:Sv} {t:List Int} (h:JB (Pre Gq) v t) (A:MT H Gq w):RdB w.heap.size w v.v t/\Sl v.v t.length:=by
 have E:=aAc h A;rw [length_map] at E;refine ⟨?_,E⟩;rcases h with ⟨rfl,J⟩ | ⟨b,m,zs,rfl,G,I,M⟩
 .have:t=[]:=by simpa using J
  subst this;exact ⟨none,0,rfl,fun h=>absurd rfl h⟩
 .refine ⟨_,m,by simp [Sv.v],fun _=>⟨b,0,rfl,(A.lt G).2,fun j D=>?_⟩⟩;have:=mM A G I (j:=j) (f:=0) (y:=.b t[j]) (by simp [D]) (by decide);simp only [KK.sz,Nat.mul_one,Nat.add_zero] at this;rw [Nat.zero_add,this,getElem?_eq_getElem D];rfl
theorem JI.rd {v:Sv} {t:List Int} (h:JI (Pre Gq) v t) (A:MT H Gq w):RdI w.heap.size w v.v t/\Sl v.v t.length:=by
 have E:=aAc h A;rw [length_map] at E;refine ⟨?_,E⟩;rcases h with ⟨rfl,J⟩ | ⟨b,m,zs,rfl,G,I,M⟩
 .have:t=[]:=by simpa using J
  subst this;exact ⟨none,0,rfl,fun h=>absurd rfl h⟩
 .refine ⟨_,m,by simp [Sv.v],fun _=>⟨b,0,rfl,(A.lt G).2,fun j D=>?_⟩⟩;have:=mM A G I (j:=j) (f:=0) (y:=.i t[j]) (by simp [D]) (by decide);simp only [KK.sz,Nat.mul_one,Nat.add_zero] at this;rw [Nat.zero_add,this,getElem?_eq_getElem D];rfl
theorem JC.rd {v:Sv} {cs:List Cm} (h:JC (Pre Gq) v cs) (D:MT H Gq w):RdC w.heap.size w v.v cs:=by
 obtain ⟨a3,O,S⟩:=h;have N:=S.len;obtain ⟨a,M,E,A,J⟩:=aAc O D;rw [N] at E A;refine ⟨a,M,E,A,J,fun h0=>?_⟩;rcases O with ⟨rfl,rfl⟩ | ⟨b,m,zs,rfl,I,Y,h5⟩
 .exact absurd (by simpa using N.symm) h0
 .obtain rfl:a=some ⟨b,0,none⟩:=by
   simp only [Sv.v] at E
   injection E with h _ _
   exact h.symm
  refine ⟨b,0,rfl,(D.lt I).2,fun j c hc=>?_⟩;obtain ⟨e,Z,G⟩:=S.at hc;cases e with
  | c x t=>
    obtain ⟨rfl,ht⟩:=G;obtain ⟨r1,r2⟩:=ht.rd D;have e0:=mM D I Y Z (f:=0) (by decide);have e1:=mM D I Y Z (f:=1) (by decide);rw [Nat.zero_add];exact ⟨t.v,e0,e1,r1,r2⟩
  | b _=>exact G.elim
  | i _=>exact G.elim
  | d _ _ _ _ _ _ _ _=>exact G.elim
theorem JN.rd {v:Sv} {ns:List Nod} (h:JN (Pre Gq) v ns) (A:MT H Gq w):RdN w.heap.size w v.v ns:=by
 obtain ⟨a5,Y,Z⟩:=h;have S:=Z.len;obtain ⟨a,O,J,I,N⟩:=aAc Y A;rw [S] at J I;refine ⟨a,O,J,I,N,fun h0=>?_⟩;rcases Y with ⟨rfl,rfl⟩ | ⟨b,m,zs,rfl,D,E,h5⟩
 .exact absurd (by simpa using S.symm) h0
 .obtain rfl:a=some ⟨b,0,none⟩:=by
   simp only [Sv.v] at J
   injection J with h _ _
   exact h.symm
  refine ⟨b,0,rfl,(A.lt D).2,fun j p hp=>?_⟩;obtain ⟨e,G,M⟩:=Z.at hp;cases e with
  | d k l mm y x u n t=>
    obtain ⟨⟨rfl,rfl,rfl⟩,c1,i1,b1,i2,c2⟩:=M;obtain ⟨r1,r2⟩:=i1.rd A;obtain ⟨r3,r4⟩:=b1.rd A;obtain ⟨r5,r6⟩:=i2.rd A;rw [Nat.zero_add];exact ⟨l.v,y.v,x.v,u.v,t.v,mM A D E G (f:=0) (by decide),mM A D E G (f:=1) (by decide),mM A D E G (f:=2) (by decide),mM A D E G (f:=3) (by decide),mM A D E G (f:=4) (by decide),mM A D E G (f:=5) (by decide),mM A D E G (f:=6) (by decide),mM A D E G (f:=7) (by decide),c1.rd A,r1,r2,r3,r4,r5,r6,c2.rd A⟩
  | b _=>exact M.elim
  | i _=>exact M.elim
  | c _ _=>exact M.elim
end
end
def aDE:List (List Int):=[[],[32,99],[120,32,121,32],[42],[47],[195,169],[97,10,98],[10],[32,123,91],[42,32,47],[47,47],[97,10,32,32,98,10],[39],[42,42]]
def uE (t:List Int):List Int:=t.map fun c=>if c=10 then 46 else c
def aJj (k:Int):Cm:=if k%2=1 then ⟨true,aDE.getD (k / 2%14).toNat []⟩ else ⟨false,uE (aDE.getD (k / 2%14).toNat [])⟩
def aDF (zs:List Int) (i:Nat):Cm × Nat:=(aJj (nxD zs i).1,(nxD zs i).2)
def kL (zs:List Int):Nat->Nat->List Cm × Nat
 | 0,i=>([],i)
 | m+1,i=>((kL zs m i).1++[(aDF zs (kL zs m i).2).1],(aDF zs (kL zs m i).2).2)
def dU (zs:List Int) (rare:Int) (i:Nat):List Cm × Nat:=
 if (nxD zs i).1%rare≠0 then ([],(nxD zs i).2) else kL zs ((nxD zs i).1 / rare%3+1).toNat (nxD zs i).2
def aHJ:List (List Int):=[[97],[98],[107,101,121],[36,120],[95],[97,49],[110,117,108,108],[97,32,98],[],[49,97],[233],[108,111,110,103,95,110,97,109,101,95,111,102,95,97,95,107,101,121],[73,110,102,105,110,105,116,121]]
def yY (zs:List Int) (i:Nat):Int × Nat:=
 if (nxD zs i).1%5=0 then (55296+(nxD zs i).1*4,(nxD zs i).2) else if (nxD zs i).1%5=1 then (56320+(nxD zs i).1*4,(nxD zs i).2)
 else ((dp zs true (nxD zs i).2).1%65536,(dp zs true (nxD zs i).2).2)
def jV (zs:List Int):Nat->Nat->List Int × Nat
 | 0,i=>([],i)
 | m+1,i=>((jV zs m i).1++[(yY zs (jV zs m i).2).1],(yY zs (jV zs m i).2).2)
def dus (zs:List Int) (most:Int) (i:Nat):List Int × Nat:=jV zs ((nxD zs i).1%most).toNat (nxD zs i).2
def aBC (zs:List Int) (i:Nat):List Int × Nat:=
 if 240<(nxD zs i).1 then dus zs 5 (nxD zs i).2 else (aHJ.getD ((nxD zs i).1%13).toNat [],(nxD zs i).2)
def aBY:List (List Int):=[[48],[49],[45,49],[43,49],[49,50,46,53],[46,53],[53,46],[49,101,51],[49,69,43,51],[50,101,45,49,48],[48,120,49,70],[45,48,88,97,98],[73,110,102,105,110,105,116,121],[45,73,110,102,105,110,105,116,121],[43,78,97,78],[78,97,78],[48,46,48],[49,48],[45,46,53,101,49],[53,46,101,50],[48,101,48],[43,48,120,48]]
def aEa (zs:List Int) (i:Nat):List Int × Nat:=(aBY.getD ((nxD zs i).1%22).toNat [],(nxD zs i).2)
def eD:Nod:=⟨0,[],false,[],[],[],0,[]⟩
def aIm (key:List Int):List Nod->List Nod
 | []=>[]
 | n::R=>{ n with mem:=true,key:=key }::R
section
variable (zs:List Int) (f:Nat->List Nod × Nat) (obj:Bool)
def tV (i:Nat):List Nod × Nat:=if obj then (aIm (aBC zs (f i).2).1 (f i).1,(aBC zs (f i).2).2) else f i
def cV:Nat->Nat->List Nod × Nat × Nat
 | 0,i=>([],0,i)
 | m+1,i=>if (cV m i).2.1=m/\(m<2\/(cV m i).2.2<zs.length) then ((cV m i).1++(tV zs f obj (cV m i).2.2).1,m+1,(tV zs f obj (cV m i).2.2).2) else cV m i
end
def bV (zs:List Int) (rare:Int):Nat->Nat->List Nod × Nat
 | d,i=>
   let k:=(nxD zs i).1%16
   let l:=dU zs rare (nxD zs i).2
   if k<3\/(d=0/\9<k) then ([{ eD with k:=k%3,L:=l.1 }],l.2)
   else if k<6 then ([{ eD with k:=3,L:=l.1,X:=(aEa zs l.2).1 }],(aEa zs l.2).2)
   else match d with
    | 0=>([{ eD with k:=4,L:=l.1,U:=(dus zs 7 l.2).1 }],(dus zs 7 l.2).2)
    | d+1=>
      if k<9 then ([{ eD with k:=4,L:=l.1,U:=(dus zs 7 l.2).1 }],(dus zs 7 l.2).2)
      else
       let m:=(nxD zs l.2).1%5
       let b:=cV zs (bV zs rare d) (decide (k%2=1)) m.toNat (nxD zs l.2).2
       let t:=dU zs rare b.2.2
       ({ eD with k:=5+k%2,L:=l.1,C:=b.2.1,tail:=t.1 }::b.1,t.2)
def oG (k1 k2:Int):Int:=if k2%3=1 then 100000 else if k1%3=0 then 3 else 30
def lC (zs:List Int) (rare:Int):Nat->List Nod × Nat->List Nod × Nat
 | 0,s=>s
 | m+1,s=>if s.1.length<6/\s.2+4<zs.length then lC zs rare m ({ eD with k:=5,C:=2 }::(s.1++(bV zs rare 3 s.2).1),(bV zs rare 3 s.2).2) else s
def lE (zs:List Int) (i:Nat):(List Nod × List Cm) × Nat:=
 let k1:=nxD zs i
 let k2:=nxD zs k1.2
 let rare:=oG k1.1 k2.1
 let s:=lC zs rare 4 (bV zs rare 4 k2.2)
 let t:=dU zs rare s.2
 ((s.1,t.1),t.2)
def qJ (ns:List Nod) (i:Nat) (g:Nod->Nod):List Nod:=match ns[i]? with | some n=>ns.set i (g n) | none=>ns
def pG (T:List Nod × List Cm) (k:Int) (i:Nat):List Nod × List Cm:=
 if k=0 then (qJ T.1 i fun n=>{ n with k:=n.k+1 },T.2)
 else if k=1 then (qJ T.1 i fun n=>{ n with k:=-1 },T.2)
 else if k=2 then (qJ T.1 i fun n=>{ n with C:=n.C+1 },T.2)
 else if k=3 then (qJ T.1 i fun n=>{ n with C:=n.C - 1 },T.2)
 else if k=4 then (qJ T.1 i fun n=>{ n with mem:=!n.mem },T.2)
 else if k=5 then (qJ T.1 i fun n=>{ n with key:=n.key++[120] },T.2)
 else if k=6 then (qJ T.1 i fun n=>{ n with X:=n.X++[46] },T.2)
 else if k=7 then (qJ T.1 i fun n=>{ n with U:=n.U++[65536] },T.2)
 else if k=8 then (qJ T.1 i fun n=>{ n with L:=n.L++[⟨true,[97,42,47]⟩] },T.2)
 else if k=9 then (qJ T.1 i fun n=>{ n with L:=n.L++[⟨false,[97,10,98]⟩] },T.2)
 else if k=10 then (qJ T.1 i fun n=>{ n with tail:=n.tail++[⟨false,[116]⟩] },T.2)
 else if k=11 then (T.1.take (T.1.length - 1),T.2)
 else if k=12 then (T.1++[eD],T.2)
 else if k=13 then (T.1,T.2++[⟨false,[255]⟩])
 else if k=14 then (qJ T.1 i fun n=>{ n with U:=n.U++[7] },T.2)
 else (qJ T.1 i fun n=>{ n with L:=n.L++[⟨true,[13]⟩] },T.2)
def tL (n:Nat):List Nod:=(range n).map fun i=>{ eD with k:=5,C:=if i+1=n then 0 else 1 }
def yT (zs:List Int) (i:Nat):(List Nod × List Cm) × Nat:=
 let k:=nxD zs i
 if k.1=7 then ((tL (10+(nxD zs k.2).1).toNat,[]),(nxD zs k.2).2)
 else if k.1%8=0 then
  let g:=lE zs k.2
  let a:=nxD zs g.2
  let b:=nxD zs a.2
  (pG g.1 (a.1%16) (b.1%g.1.1.length).toNat,b.2)
 else lE zs k.2
end Go.Proofs.YtckcaefnokeodaaGreatDoor
