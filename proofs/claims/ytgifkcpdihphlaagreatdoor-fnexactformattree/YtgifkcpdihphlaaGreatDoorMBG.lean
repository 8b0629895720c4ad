import Derived.Test.YtgifkcpdihphlaaGreatDoorMAZ
set_option maxHeartbeats 16000000
set_option maxRecDepth 100000
namespace Go.Proofs.YtgifkcpdihphlaaGreatDoor
open Tryz
open Go.RowKit Go.Shelf
attribute [local go_sem] Oper.semAt_some
theorem aB5 (W:World) (v:Value) (t:TypeId):(W.alloc (.cells #[v] t)).cell? ⟨W.heap.size,0,none⟩=some v/\(W.alloc (.cells #[v] t)).frozen? ⟨W.heap.size,0,none⟩=false:=
 ⟨(Boxed.new W t v).cell,(Boxed.new W t v).frozen⟩
theorem dS {W:World} {a:Addr} {v:Value} (o:Obj) (h:W.cell? a=some v):(W.alloc o).cell? a=some v:=cell_kept h (World.grownBy_alloc W o none) (fun r e=>by cases e)
theorem dQ {W:World} {a:Addr} {v:Value} (o:Obj) (h:W.cell? a=some v) (j:W.frozen? a=false):(W.alloc o).frozen? a=false:=(frozen_kept h (World.grownBy_alloc W o none) (fun r e=>by cases e)).trans j
theorem aFp {zs:List Int} (h:∀ x∈kL zs,x.2≠-1):aH zs=((kL zs).length:Int):=by
 unfold aH;rw [aCc h];simp
theorem aET {zs:List Int} {q:List (Int × Int)} {x:Int × Int} (h:q++[x] <+: kL zs) (j:x.2 = -1):aH zs = -1:=by
 unfold aH;rw [aBD h j];simp
theorem wV (n:Nat) (hn:3<=n) (v:Value) (zs:List Int) (w:World) (hv:RdB w.heap.size w v zs) (b3:Bys zs) (hm:zs.length<=1048576) (u:Sl v zs.length) (hT:Tab w) :
  CallsIn Fence.wide n prog 149 #[v] w fun e w'=>e=.returned (.int .i64 (aH zs))/\Below w.heap.size w w':=by
 have h1:1<=n:=(by omega);have b0:=u;obtain ⟨a,cap,rfl,b6,c2⟩:=b0;have H:=hT.pos;refine callsIn_of_wp_marks func149 rfl trivial ?_ rfl;simp only [ntmps149,List.size_toArray,List.length_cons,List.length_nil,Nat.reduceAdd,Nat.reduceSub,Array.replicate_succ,Array.replicate_zero,List.push_toArray,List.append_toArray,List.nil_append,List.cons_append]
 gi_wp2_with fail
 refine ⟨trivial,(xS (n - 1) _ _ _ _).mono ?_⟩;rintro e w' ⟨rfl,rfl⟩
 gi_wp2_with fail
 have c0:=aB5 w (.int .i64 0) 3;have c1:=aB5 (w.alloc (.cells #[.int .i64 0] 3)) (.int .i64 0) 3;have bx:=Boxed.new ((w.alloc (.cells #[.int .i64 0] 3)).alloc (.cells #[.int .i64 0] 3)) 27 (.slice a zs.length cap);simp only [World.size_alloc] at c1 bx;have O:Below w.heap.size w (((w.alloc (.cells #[.int .i64 0] 3)).alloc (.cells #[.int .i64 0] 3)).alloc (.cells #[.slice a zs.length cap] 27)):=(((Below.refl _ w).alloc (Nat.le_refl _) _).alloc (by simp) _).alloc (by simp;omega) _
 refine wpIn_rangeFunc_ownF rfl h1 (gf:=156) (lb:=#[.pointer (some ⟨w.heap.size+1+1,0,none⟩)]) rfl trivial (enters_of func156 (by kernel_rfl) rfl)
  (rQ (n - 1) (by omega) (w.heap.size+1+1) w.heap.size _ zs _ b3 (by omega) u bx (by simp;omega) (hv.below O) (hT.below O H) H) aLy (aLA (by simp;omega) (by simp)) (Below.refl _ _) (fun _=>rfl)
  (fun (j:List (Int × Int)) W=>((∀ x∈j,x.2≠-1)/\W.cell? ⟨w.heap.size+1,0,none⟩=some (.int .i64 (j.length:Int))/\W.frozen? ⟨w.heap.size+1,0,none⟩=false/\W.cell? ⟨w.heap.size,0,none⟩=some (.int .i64 0)/\W.frozen? ⟨w.heap.size,0,none⟩=false)/\Below w.heap.size w W)
  (fun c (j:List (Int × Int)) W=>(c=.ret/\(∃ (q:List (Int × Int)) (x:Int × Int),j=q++[x]/\x.2 = -1)/\W.cell? ⟨w.heap.size,0,none⟩=some (.int .i64 (-1)))/\Below w.heap.size w W)
  (OwnFrom.and (Own.from (fun s A B b1 u S U=>⟨u.1,cell_kept u.2.1 S U,(frozen_kept u.2.1 S U).trans u.2.2.1,cell_kept u.2.2.2.1 S U,(frozen_kept u.2.2.2.1 S U).trans u.2.2.2.2⟩) _) (ownFrom_below (Nat.le_refl _) (by simp;omega)))
  (fun c=>OwnFrom.and (Own.from (fun s A B b1 u S U=>⟨u.1,u.2.1,cell_kept u.2.2 S U⟩) _) (ownFrom_below (Nat.le_refl _) (by simp;omega)))
  ⟨⟨by simp,dS _ c1.1,dQ _ c1.1 c1.2,dS _ (dS _ c0.1),dQ _ (dS _ c0.1) (dQ _ c0.1 c0.2)⟩,O⟩
  (fun x=>{ tmps:=#[.slice a zs.length cap,undef,.pointer (some ⟨w.heap.size,0,none⟩),.pointer (some ⟨w.heap.size+1,0,none⟩),undef,.int .i32 x.2,.slice a zs.length cap,.func (.func 156) #[] #[.pointer (some ⟨w.heap.size+1+1,0,none⟩)],.int .i64 x.1,.int .i32 x.2,undef,undef,undef,undef,undef],defers:=[] }) ?assign ?body ?done ?stop
 case assign=>
  intro l x W K J
  gi_wp2
  exact J
 case body=>
  rintro l j x W ⟨⟨G,a5,a6,E,a4⟩,X⟩ b8
  gi_wp2
  ·rename_i Z
   have M:x.2 = -1:=(by simpa using Z);exact ⟨KeepsOthers.setCell _ _ _,⟨rfl,⟨j,x,rfl,M⟩,World.cell?_setCell_same' _ _ _ (by rw [E];rfl)⟩,X.setCell (p:=⟨w.heap.size,0,none⟩) (Nat.le_refl _) _⟩
  ·rename_i Z
   have M:x.2≠-1:=(by simpa using Z);refine ⟨KeepsOthers.setCell _ _ _,⟨(Below.refl w.heap.size W).setCell (p:=⟨w.heap.size+1,0,none⟩) (by simp) _,Below.heap_setCell _ _ _ _ (by simp)⟩,⟨?_,?_,?_,?_,?_⟩,X.setCell (p:=⟨w.heap.size+1,0,none⟩) (by simp) _⟩
   ·intro y hy;rcases List.mem_append.1 hy with h | h
    ·exact G y h
    ·simp at h;subst h;exact M
   ·rw [World.cell?_setCell_same' _ _ _ (by rw [a5];rfl)];simp
   ·rw [World.frozen?_setCell];exact a6
   ·exact (World.cell?_setCell_other _ _ _ _ (by simp)).trans E
   ·rw [World.frozen?_setCell];exact a4
 case done=>
  rintro D ys W hD rfl ⟨⟨G,a5,a6,E,a4⟩,X⟩ J;have HW:Hid (aH zs=((kL zs).length:Int)):=aFp G
  gi_wp2
  have N:=(KeepsOthers.setCell W ⟨w.heap.size,0,none⟩ (.int .i64 ((kL zs).length:Int))).same D _ J rfl;refine ⟨by simp,.inl ⟨_,_,rfl,run_takeDeferred N,?_⟩⟩;have L:=cell_kept (World.cell?_setCell_same' W ⟨w.heap.size,0,none⟩ (.int .i64 ((kL zs).length:Int)) (by rw [E];rfl)) (grownBy_putObj' _ D (.deferred none)) (fun r e=>by cases e;exact ⟨_,N,rfl⟩);refine ⟨.int .i64 ((kL zs).length:Int),?_,by rw [HW.out],(X.setCell (p:=⟨w.heap.size,0,none⟩) (Nat.le_refl _) _).trans (belowK_b (w:=w) (Nat.le_refl _) _ D _ _ (by simp at hD;omega) N rfl rfl)⟩;simp [results,Tryz.f149,go_sem,L]
 case stop=>
  rintro D c j W hD Y ⟨⟨rfl,⟨q,x,hq,Z⟩,E⟩,X⟩ J;have HW:Hid (aH zs = -1):=aET (by rw [<- hq];exact Y) Z
  gi_wp2
  refine ⟨by simp,.inl ⟨_,_,rfl,run_takeDeferred J,?_⟩⟩;have L:=cell_kept E (grownBy_putObj' _ D (.deferred none)) (fun r e=>by cases e;exact ⟨_,J,rfl⟩);refine ⟨.int .i64 (-1),?_,by rw [HW.out],X.trans (belowK_b (w:=w) (Nat.le_refl _) W D _ _ (by simp at hD;omega) J rfl rfl)⟩;simp [results,Tryz.f149,go_sem,L]
theorem vI (v:Value) (zs:List Int) (w:World) (hv:RdB w.heap.size w v zs) (j:Bys zs) (u:zs.length<=1048576) (y:Sl v zs.length) (A:Tab w) :
  Calls prog 149 #[v] w fun e w'=>e=.returned (.int .i64 (aH zs))/\w.grownBy w' none:=
 (callsIn_wide.1 (wV 3 (Nat.le_refl _) v zs w hv j u y A)).mono fun _ _ h=>⟨h.1,aC h.2⟩
end Go.Proofs.YtgifkcpdihphlaaGreatDoor
namespace Go.Proofs.YtgifkcpdihphlaaGreatDoor
open Tryz
open Go.RowKit
theorem aIg:(prog.info? 153).map (fun i=>(i.zero,i.size,i.bytes))=some (some .nilIface,1,16):=by kernel_rfl
theorem aIc:(prog.info? 218).map (fun i=>(i.zero,i.size,i.bytes))=some (some (.agg #[.nilIface,.int .i64 0]),2,24):=by kernel_rfl
def Rep (X:Nat->Prop) (B:Nat) (w:World):Value->Tr->Prop
 | v,.leaf p=>
   (p.k=0/\v=.iface 182 (.agg #[]))\/(p.k=2/\v=.iface 183 (.agg #[]))\/(p.k=3/\v=.iface 184 (.agg #[]))\/
   (p.k=4/\v=.iface 185 (.agg #[]))\/(p.k=5/\v=.iface 186 (.agg #[]))\/
   (p.k=1/\∃ b tv,v=.iface 187 (.pointer (some ⟨b,0,none⟩))/\¬ X b/\b<w.heap.size/\w.heap[b]?=some (.cells #[tv,.int .i64 (aH p.t)] 189)/\RdB B w tv p.t/\Sl tv p.t.length)
 | v,.un p x=>
   ∃ b u,¬ X b/\b<w.heap.size/\w.cell? ⟨b,0,none⟩=some u/\Rep X B w u x/\
    ((p.k=8/\v=.iface 195 (.pointer (some ⟨b,0,none⟩)))\/(p.k=7/\v=.iface 190 (.pointer (some ⟨b,0,none⟩))))
 | v,.bin p x y=>
   ∃ b u u',¬ X b/\b<w.heap.size/\w.cell? ⟨b,0,none⟩=some u/\w.cell? ⟨b,1,none⟩=some u'/\Rep X B w u x/\Rep X B w u' y/\
    ((p.k=6/\v=.iface 198 (.pointer (some ⟨b,0,none⟩)))\/(p.k=9/\v=.iface 202 (.pointer (some ⟨b,0,none⟩))))
theorem Rep.turn {X Y:Nat->Prop} {B:Nat} {w w':World} (S:w.heap.size<=w'.heap.size) (D:∀ b,b<w.heap.size->¬ X b->w'.heap[b]?=w.heap[b]?) (G:∀ b,b<w.heap.size->Y b->X b)
  (M:∀ tv t,RdB B w tv t->RdB B w' tv t):∀ {T:Tr} {v:Value},Rep X B w v T->Rep Y B w' v T
 | .leaf p,v,h=>by
   simp only [Rep] at h ⊢;rcases h with h | h | h | h | h | ⟨h1,b,tv,h2,A,j,L,H,h8⟩
   ·exact .inl h
   ·exact .inr (.inl h)
   ·exact .inr (.inr (.inl h))
   ·exact .inr (.inr (.inr (.inl h)))
   ·exact .inr (.inr (.inr (.inr (.inl h))))
   ·have E:=D b j A;exact .inr (.inr (.inr (.inr (.inr ⟨h1,b,tv,h2,fun J=>A (G b j J),by omega,E.trans L,M _ _ H,h8⟩))))
 | .un p x,v,h=>by
   simp only [Rep] at h ⊢;obtain ⟨b,u,A,j,L,O,H⟩:=h;have E:=D b j A;exact ⟨b,u,fun J=>A (G b j J),by omega,(World.cell?_of_block E).trans L,O.turn S D G M,H⟩
 | .bin p x y,v,h=>by
   simp only [Rep] at h ⊢;obtain ⟨b,u,Z,A,j,L,N,O,U,H⟩:=h;have E:=D b j A;exact ⟨b,u,Z,fun J=>A (G b j J),by omega,(World.cell?_of_block E).trans L,(World.cell?_of_block E).trans N,O.turn S D G M,U.turn S D G M,H⟩
theorem Rep.form {X:Nat->Prop} {B:Nat} {w:World} : ∀ {T:Tr} {v:Value},Rep X B w v T->∃ t u,v=.iface t u
 | .leaf p,v,h=>by
   simp only [Rep] at h;rcases h with h | h | h | h | h | ⟨N,b,tv,H,_⟩
   ·exact ⟨_,_,h.2⟩
   ·exact ⟨_,_,h.2⟩
   ·exact ⟨_,_,h.2⟩
   ·exact ⟨_,_,h.2⟩
   ·exact ⟨_,_,h.2⟩
   ·exact ⟨_,_,H⟩
 | .un p x,v,h=>by
   simp only [Rep] at h;obtain ⟨b,u,E,D,J,G,j | j⟩:=h
   ·exact ⟨_,_,j.2⟩
   ·exact ⟨_,_,j.2⟩
 | .bin p x y,v,h=>by
   simp only [Rep] at h;obtain ⟨b,u,M,E,D,J,A,G,L,j | j⟩:=h
   ·exact ⟨_,_,j.2⟩
   ·exact ⟨_,_,j.2⟩
def cV (w:World):Value->Tr->List Value->Prop
 | v,.leaf _,l=>l=[v]
 | v,.un p x,l=>∃ t b u l1,v=.iface t (.pointer (some ⟨b,0,none⟩))/\w.cell? ⟨b,0,none⟩=some u/\(p.k=7->w.cell? ⟨b,1,none⟩=some (.int .i64 p.n))/\cV w u x l1/\l=l1++[v]
 | v,.bin _ x y,l=>∃ t b u u' l1 l2,v=.iface t (.pointer (some ⟨b,0,none⟩))/\w.cell? ⟨b,0,none⟩=some u/\w.cell? ⟨b,1,none⟩=some u'/\cV w u x l1/\cV w u' y l2/\l=l1++l2++[v]
theorem cV.turn {X:Nat->Prop} {B:Nat} {w w':World} (G:∀ b,b<w.heap.size->¬ X b->w'.heap[b]?=w.heap[b]?):∀ {T:Tr} {v:Value} {l:List Value},Rep X B w v T->cV w v T l->cV w' v T l
 | .leaf _,v,l,_,h=>h
 | .un p x,v,l,hr,h=>by
   simp only [Rep] at hr;simp only [cV] at h ⊢;obtain ⟨U,u0,L,S,M,Y,j⟩:=hr;obtain ⟨t,b,u,Z,hv,E,k2,k3,O⟩:=h
   have D:b=U:=by
    rcases j with ⟨_,j⟩ | ⟨_,j⟩<;>(rw [hv] at j;simp at j;exact j.2)
   subst D;have J:=G b S L;have hu:u0=u:=(by rw [M] at E;exact Option.some.inj E);subst hu;exact ⟨t,b,u0,Z,hv,(World.cell?_of_block J).trans E,fun e=>(World.cell?_of_block J).trans (k2 e),k3.turn G Y,O⟩
 | .bin p x y,v,l,hr,h=>by
   simp only [Rep] at hr;simp only [cV] at h ⊢;obtain ⟨U,u0,H,L,S,M,N,Y,a8,j⟩:=hr;obtain ⟨t,b,u,u',Z,l2,hv,E,A,k3,a7,O⟩:=h
   have D:b=U:=by
    rcases j with ⟨_,j⟩ | ⟨_,j⟩<;>(rw [hv] at j;simp at j;exact j.2)
   subst D;have J:=G b S L;have hu:u0=u:=(by rw [M] at E;exact Option.some.inj E);have a6:H=u':=(by rw [N] at A;exact Option.some.inj A);subst hu a6;exact ⟨t,b,u0,H,Z,l2,hv,(World.cell?_of_block J).trans E,(World.cell?_of_block J).trans A,k3.turn G Y,a7.turn G a8,O⟩
structure Mk where
 v:Value
 T:Tr
 n:Int
 l:List Value
def iS:List Mk->List Value
 | []=>[]
 | x::r=>x.v::.int .i64 x.n::iS r
def cB:List Mk->List Value
 | []=>[]
 | x::r=>x.l++cB r
theorem kR:∀ (r:List Mk),(iS r).length=r.length*2
 | []=>rfl
 | x::r=>by simp only [iS,List.length_cons,kR r];omega
theorem pX:∀ (r s:List Mk),iS (r++s)=iS r++iS s
 | [],s=>rfl
 | x::r,s=>by simp only [List.cons_append,iS,pX r s]
theorem cZ:∀ (r s:List Mk),cB (r++s)=cB r++cB s
 | [],s=>rfl
 | x::r,s=>by simp only [List.cons_append,cB,cZ r s,List.append_assoc]
theorem cX (x:Mk):cB [x]=x.l:=by simp [cB]
def Xof (bb:Nat) (nv rv:Value) (b:Nat):Prop:=b=bb\/nv.ownBlock=some b\/rv.ownBlock=some b
structure lH (X:Nat->Prop) (w:World) (ns:List Value):Prop where
 nd:ns.Pairwise fun x y=>∀ t b,y=.iface t (.pointer (some ⟨b,0,none⟩))->x≠y
 lt:∀ t b,.iface t (.pointer (some ⟨b,0,none⟩))∈ns->¬ X b/\∃ cs t',w.heap[b]?=some (.cells cs t')
theorem lH.lts {X:Nat->Prop} {w:World} {j:List Value} (h:lH X w j) {t:TypeId} {b:Nat} (u : .iface t (.pointer (some ⟨b,0,none⟩))∈j):b<w.heap.size:=by
 obtain ⟨_,A,D,y⟩:=h.lt t b u;exact (Array.getElem?_eq_some_iff.1 y).1
theorem lH.turn {X y:Nat->Prop} {w w':World} {D:List Value} (G:∀ b,b<w.heap.size->¬ X b->w'.heap[b]?=w.heap[b]?) (M:∀ b,b<w.heap.size->y b->X b) (h:lH X w D):lH y w' D:=by
 refine ⟨h.nd,fun t b j=>?_⟩;have u:=h.lts j;obtain ⟨A,E,L,J⟩:=h.lt t b j;exact ⟨fun H=>A (M b u H),E,L,(G b u A).trans J⟩
theorem lH.snoc {X J:Nat->Prop} {w w':World} {A:List Value} {v:Value} (G:∀ b,b<w.heap.size->¬ X b->w'.heap[b]?=w.heap[b]?) (M:∀ b,b<w.heap.size->J b->X b) (h:lH X w A)
  (E:∀ t b,v=.iface t (.pointer (some ⟨b,0,none⟩))->(¬ X b/\∃ y D,w.heap[b]?=some (.cells y D))/\v ∉ A):lH J w' (A++[v]):=by
 refine ⟨?_,?_⟩
 ·rw [List.pairwise_append];refine ⟨h.nd,by simp,?_⟩;intro a U b j t k O e;simp only [List.mem_singleton] at j;subst j;subst e;exact (E t k O).2 U
 ·intro t b N;rcases List.mem_append.1 N with u | u
  ·exact (h.turn G M).lt t b u
  ·simp only [List.mem_singleton] at u;obtain ⟨⟨L,y,D,H⟩,_⟩:=E t b u.symm;have j:=(Array.getElem?_eq_some_iff.1 H).1;exact ⟨fun S=>L (M b j S),y,D,(G b j L).trans H⟩
theorem lH.new {X:Nat->Prop} {w:World} {j:List Value} (h:lH X w j) (t:TypeId) (b:Nat) (y:w.heap.size<=b) : .iface t (.pointer (some ⟨b,0,none⟩)) ∉ j:=fun u=>by
 have:=h.lts u;omega
structure Bst (B:Nat) (w:World) (bb:Nat) (nv rv:Value) (rs:List Mk) (ns:List Value) (room:Int):Prop where
 big:B<=bb
 c0:w.cell? ⟨bb,0,none⟩=some nv
 f0:w.frozen? ⟨bb,0,none⟩=false
 c1:w.cell? ⟨bb,1,none⟩=some rv
 f1:w.frozen? ⟨bb,1,none⟩=false
 c2:w.cell? ⟨bb,2,none⟩=some (.int .i64 room)
 f2:w.frozen? ⟨bb,2,none⟩=false
 nrow:w.ownsRow B 153 1 nv ns.length ns
 row:w.ownsRow B 218 2 rv rs.length (iS rs)
 ap:rv.ownBlock≠some bb
 nap:nv.ownBlock≠some bb
 nr:∀ g,nv.ownBlock=some g->rv.ownBlock≠some g
 once:lH (Xof bb nv rv) w ns
 rep:∀ x∈rs,Rep (Xof bb nv rv) B w x.v x.T
 post:∀ x∈rs,cV w x.v x.T x.l
theorem Bst.lt {B:Nat} {w:World} {u:Nat} {nv y:Value} {A:List Mk} {D:List Value} {j:Int} (h:Bst B w u nv y A D j):u<w.heap.size:=World.block_lt_of_cell? w _ h.c0
theorem Bst.K {B:Nat} {w w':World} {G:Nat} {nv D:Value} {E:List Mk} {H:List Value} {u:Int} (h:Bst B w G nv D E H u) (j:w.grownBy w' none):Bst B w' G nv D E H u:=by
 have a:=uK j h.c0 h.f0;have b:=uK j h.c1 h.f1;have c:=uK j h.c2 h.f2
 refine ⟨h.big,a.1,a.2,b.1,b.2,c.1,c.2,World.ownsRow.kept h.nrow j (by cases nv.ownBlock<;>simp),World.ownsRow.kept h.row j (by cases D.ownBlock<;>simp),h.ap,h.nap,h.nr,h.once.turn (fun b y _=>j.block b y (by simp)) (fun _ _ h=>h),fun x A=>(h.rep x A).turn j.size (fun b y _=>j.block b y (by simp)) (fun _ _ h=>h) (fun tv t J=>J.K j),
  fun x A=>(h.post x A).turn (fun b y _=>j.block b y (by simp)) (h.rep x A)⟩
theorem Rep.K {X:Nat->Prop} {B:Nat} {w w':World} {T:Tr} {v:Value} (h:Rep X B w v T) (j:w.grownBy w' none):Rep X B w' v T:=
 h.turn j.size (fun b u _=>j.block b u (by simp)) (fun _ _ h=>h) (fun tv t y=>y.K j)
theorem cV.K {X:Nat->Prop} {B:Nat} {w w':World} {T:Tr} {v:Value} {l:List Value} (h:cV w v T l) (y:Rep X B w v T) (j:w.grownBy w' none):cV w' v T l:=
 h.turn (fun b u _=>j.block b u (by simp)) y
structure Fr (B bb:Nat) (nv rv nv' rv':Value) (w w':World):Prop where
 bel:Below B w w'
 blk:∀ b,b<w.heap.size->¬ Xof bb nv rv b->w'.heap[b]?=w.heap[b]?
 mono:∀ b,b<w.heap.size->Xof bb nv' rv' b->Xof bb nv rv b
theorem Fr.rep {B A:Nat} {nv D j u:Value} {w w':World} (h:Fr B A nv D j u w w') {T:Tr} {v:Value} (y:Rep (Xof A nv D) B w v T):Rep (Xof A j u) B w' v T:=
 y.turn h.bel.size h.blk h.mono (fun _ _ y=>Rd.below y h.bel)
theorem Fr.post {B A:Nat} {nv y j u:Value} {w w':World} (h:Fr B A nv y j u w w') {T:Tr} {v:Value} {l:List Value} (D:Rep (Xof A nv y) B w v T) (E:cV w v T l):cV w' v T l:=
 E.turn h.blk D
theorem Fr.cell {B D:Nat} {nv A j u:Value} {w w':World} (h:Fr B D nv A j u w w') {a:Addr} {v:Value} (y:w.cell? a=some v) (E:¬ Xof D nv A a.block):w'.cell? a=some v:=
 (World.cell?_of_block (h.blk a.block (World.block_lt_of_cell? w a y) E)).trans y
theorem Fr.grown {B E:Nat} {nv y j u:Value} {w w' G:World} (h:Fr B E nv y j u w w') (D:w'.grownBy G none) (H:B<=w.heap.size):Fr B E nv y j u w G:=
 ⟨h.bel.grown D (Nat.le_trans H h.bel.size) (fun k e=>by cases e),fun b A J=>(D.block b (Nat.lt_of_lt_of_le A h.bel.size) (by simp)).trans (h.blk b A J),h.mono⟩
theorem Fr.trans {B E:Nat} {nv G u D A y:Value} {w w' J:World} (h:Fr B E nv G u D w w') (k:Fr B E u D A y w' J):Fr B E nv G A y w J:=
 ⟨h.bel.trans k.bel,fun b j H=>(k.blk b (Nat.lt_of_lt_of_le j h.bel.size) (fun e=>H (h.mono b j e))).trans (h.blk b j H),fun b j e=>h.mono b j (k.mono b (Nat.lt_of_lt_of_le j h.bel.size) e)⟩
theorem aFA (w:World) (x y:Value) (t:TypeId):∀ j u,[x,y][j]?=some u->(w.alloc (.cells #[x,y] t)).cell? ((⟨w.heap.size,0,none⟩:Addr).add j)=some u:=by
 intro j u h
 match j,h with
 | 0,h=>
   simp at h;subst h;simp [Addr.add]
 | 1,h=>
   simp at h;subst h;simp [Addr.add]
theorem qE (w:World) (x:Value) (t:TypeId):∀ j u,[x][j]?=some u->(w.alloc (.cells #[x] t)).cell? ((⟨w.heap.size,0,none⟩:Addr).add j)=some u:=by
 intro j u h
 match j,h with
 | 0,h=>
   simp at h;subst h;simp [Addr.add]
theorem kF (B:Nat) (w:World) (E:Nat) (nv rv:Value) (L:List Mk) (H:List Value) (a5:Int) (x:Mk) (J:Bst B w E nv rv L H a5) (hx:Rep (Xof E nv rv) B w x.v x.T) (hp:cV w x.v x.T x.l)
  (hf:∀ t b,x.v=.iface t (.pointer (some ⟨b,0,none⟩))->(¬ Xof E nv rv b/\∃ cs t',w.heap[b]?=some (.cells cs t'))/\x.v ∉ H) (hB:B<=w.heap.size) (hl:L.length<=1048576) (k4:H.length<=1048576) :
  Calls prog 124 #[.pointer (some ⟨E,0,none⟩),x.v,.int .i64 x.n] w fun e w'=>e=.returned (.tuple #[])/\∃ c9 c8,Bst B w' E c9 c8 (L++[x]) (H++[x.v]) a5/\Fr B E nv rv c9 c8 w w':=by
 obtain ⟨i0,hi,h7,h3,g7⟩:=info_parts aIc;obtain ⟨j0,hj,g4,f8,g6⟩:=info_parts aIg;obtain ⟨t,u,b9⟩:=hx.form;obtain ⟨ra,M,g1,_,_⟩:=bD J.row;obtain ⟨na,a9,h8,_,_⟩:=bD J.nrow;have c0:=J.c0;have f0:=J.f0;have c1:=J.c1;have f1:=J.f1;have k5:=J.lt;have HS:Hid (Bst B w E nv rv L H a5):=J;have HX:Hid (Rep (Xof E nv rv) B w x.v x.T):=hx;have HP:Hid (cV w x.v x.T x.l):=hp;have f5:Hid (∀ t b,x.v=.iface t (.pointer (some ⟨b,0,none⟩))->(¬ Xof E nv rv b/\∃ cs t',w.heap[b]?=some (.cells cs t'))/\x.v ∉ H):=hf;have a6:=J.row;have a7:=J.nrow;have b8:=J.ap;have b5:=J.nap;have d2:=J.nr;clear J hx hp hf;rw [b9];subst g1;subst h8
 go_enter func124,ntmps124
 go_wp2_with (at_builtin;refine wpList_append_own_at _ rfl _ _ 97 rfl B 153 j0 .nilIface 1 16 underlying97 hj g4 f8 g6 rfl (by decide) _ _ _ rfl (World.ownsRow.alloc a7 _) ⟨w.heap.size,0,none⟩ 1 1 [.iface t u] rfl rfl (qE _ _ _) (by intro u hu;simp at hu;subst hu;rfl) (by unfold maxLen;omega) (by omega) (by simp;omega) ?_)
 intro v1 U Z A _ d7;obtain ⟨N,j,f4,_,_⟩:=bD Z;subst f4;have S:some E≠(Value.slice na H.length a9).ownBlock:=fun e=>b5 e.symm;have d0:=A.cell (a:=⟨E,0,none⟩) (dS _ c0) S;have e0:U.frozen? ⟨E,0,none⟩=false:=(World.frozen?_of_block (A.block E (by simp;omega) S)).trans (dQ _ c0 f0);have d1:=A.cell (a:=⟨E,1,none⟩) (dS _ c1) S;have e1:U.frozen? ⟨E,1,none⟩=false:=(World.frozen?_of_block (A.block E (by simp;omega) S)).trans (dQ _ c1 f1)
 have a4:(Value.slice N (H.length+1) j).ownBlock=(Value.slice na H.length a9).ownBlock\/(Value.slice N (H.length+1) j).ownBlock=some (w.heap.size+1):=by
  rcases d7 with h | h
  ·exact .inl h
  ·exact .inr (h.trans (by simp))
 have b6:(Value.slice N (H.length+1) j).ownBlock≠some E:=by
  intro e;rcases a4 with h | h
  ·exact b5 (by rw [<- h];exact e)
  ·rw [e] at h;simp at h;omega
 have d9:=World.ownsRow.lt a6
 have d8:∀ g,(Value.slice N (H.length+1) j).ownBlock=some g->(Value.slice ra L.length M).ownBlock≠some g:=by
  intro g h1 X;rcases a4 with h | h
  ·exact d2 g (by rw [<- h];exact h1) X
  ·rw [h1] at h;simp at h;have:=d9 g X;omega
 have h0:(U.setCell ⟨E,0,none⟩ (Value.slice N (H.length+1) j)).ownsRow B 218 2 (.slice ra L.length M) L.length (iS L):=by
  refine dP ?_ _ _ b8;refine World.ownsRow.kept (World.ownsRow.alloc a6 _) A ?_;cases i1:(Value.slice ra L.length M).ownBlock with
  | none=>exact .inl rfl
  | some g=>exact .inr fun e=>d2 g e.symm i1
 have h6:=A.size;simp only [World.size_alloc] at h6
 go_wp2_with (at_builtin;refine wpList_append_own_at _ rfl _ _ 144 rfl B 218 i0 (.agg #[.nilIface,.int .i64 0]) 2 24 underlying144 hi h7 h3 g7 rfl (by decide) _ _ _ rfl (World.ownsRow.alloc h0 _) ⟨U.heap.size,0,none⟩ 1 1 [.iface t u,.int .i64 x.n] rfl rfl (by have:=aFA (U.setCell ⟨E,0,none⟩ (Value.slice N (H.length+1) j)) (.iface t u) (.int .i64 x.n) 218;simpa using this) (by intro u hu;simp at hu;rcases hu with rfl | rfl<;>rfl) (by unfold maxLen;omega) (by omega) (by simp;omega) ?_)
 intro v2 w2 b3 D _ c7;obtain ⟨ua,G,g2,_,_⟩:=bD b3;subst g2;have O:some E≠(Value.slice ra L.length M).ownBlock:=fun e=>b8 e.symm;have i7:E<U.heap.size:=(by omega);have a0:(U.setCell ⟨E,0,none⟩ (Value.slice N (H.length+1) j)).cell? ⟨E,0,none⟩=some (Value.slice N (H.length+1) j):=(by simp [go_sem,d0]);have a1:(U.setCell ⟨E,0,none⟩ (Value.slice N (H.length+1) j)).cell? ⟨E,1,none⟩=some (Value.slice ra L.length M):=(by simp [go_sem,d1]);have b0:(U.setCell ⟨E,0,none⟩ (Value.slice N (H.length+1) j)).frozen? ⟨E,0,none⟩=false:=(by simpa using e0);have b1:(U.setCell ⟨E,0,none⟩ (Value.slice N (H.length+1) j)).frozen? ⟨E,1,none⟩=false:=(by simpa using e1);have x0:=D.cell (a:=⟨E,0,none⟩) (dS _ a0) O;have x1:=D.cell (a:=⟨E,1,none⟩) (dS _ a1) O;have y0:w2.frozen? ⟨E,0,none⟩=false:=(World.frozen?_of_block (D.block E (by simp;omega) O)).trans (dQ _ a0 b0);have y1:w2.frozen? ⟨E,1,none⟩=false:=(World.frozen?_of_block (D.block E (by simp;omega) O)).trans (dQ _ a1 b1);have HA:Hid ((U.setCell ⟨E,0,none⟩ (Value.slice N (H.length+1) j)).ownsRow B 153 1 (Value.slice N (H.length+1) j) (H.length+1) (H++[.iface t u])):=dP Z _ _ b6;clear a0 a1 b0 b1 d0 d1 e0 e1 c0 c1 f0 f1;go_wp2
 go_returns
 have J:=HS.out;have hX:=HX.out;have f9:=D.size;simp only [World.size_alloc,World.size_setCell] at f9
 have Y:(Value.slice ua (L.length+1) G).ownBlock=(Value.slice ra L.length M).ownBlock\/(Value.slice ua (L.length+1) G).ownBlock=some (U.heap.size+1):=by
  rcases c7 with h | h
  ·exact .inl h
  ·exact .inr (h.trans (by simp))
 have d3:(Value.slice ua (L.length+1) G).ownBlock≠some E:=by
  intro e;rcases Y with h | h
  ·exact b8 (by rw [<- h];exact e)
  ·rw [e] at h;simp at h;omega
 have f3:∀ g,(Value.slice N (H.length+1) j).ownBlock=some g->g<U.heap.size:=fun g h=>(World.ownsRow.lt Z g h).2
 have g5:∀ g,(Value.slice N (H.length+1) j).ownBlock=some g->(Value.slice ua (L.length+1) G).ownBlock≠some g:=by
  intro g h1 X;rcases Y with h | h
  ·exact d8 g h1 (by rw [<- h];exact X)
  ·rw [X] at h;simp at h;have:=f3 g h1;omega
 have f6:Below B w (w2.setCell ⟨E,1,none⟩ (Value.slice ua (L.length+1) G)):=
  (((((((Below.refl B w).alloc hB _).grown A (by simp;omega) (fun k hk=>(World.ownsRow.lt a7 k hk).1))).setCell J.big _).alloc (by simp;omega) _).grown D (by simp;omega) (fun k hk=>(World.ownsRow.lt a6 k hk).1)).setCell J.big _
 have fr:Fr B E (Value.slice na H.length a9) (Value.slice ra L.length M) (Value.slice N (H.length+1) j) (Value.slice ua (L.length+1) G) w (w2.setCell ⟨E,1,none⟩ (Value.slice ua (L.length+1) G)):=by
  refine ⟨f6,?_,?_⟩
  ·intro b hb a8;unfold Xof at a8;rw [heap_setCell_other _ _ _ _ (fun e=>a8 (.inl (by simpa using e)))];rw [D.block b (by simp;omega) (fun e=>a8 (.inr (.inr e.symm)))];rw [heap_alloc_old _ _ (by simp;omega)];rw [heap_setCell_other _ _ _ _ (fun e=>a8 (.inl (by simpa using e)))];rw [A.block b (by simp;omega) (fun e=>a8 (.inr (.inl e.symm)))];exact heap_alloc_old w _ hb
  ·intro b hb hx;unfold Xof at hx ⊢;rcases hx with h | h | h
   ·exact .inl h
   ·rcases a4 with X | X
    ·exact .inr (.inl (by rw [<- X];exact h))
    ·rw [h] at X;simp at X;omega
   ·rcases Y with X | X
    ·exact .inr (.inr (by rw [<- X];exact h))
    ·rw [h] at X;simp at X;omega
 have c2:=A.cell (a:=⟨E,2,none⟩) (dS _ J.c2) S;have f2:U.frozen? ⟨E,2,none⟩=false:=(World.frozen?_of_block (A.block E (by simp;omega) S)).trans (dQ _ J.c2 J.f2);have a2:(U.setCell ⟨E,0,none⟩ (Value.slice N (H.length+1) j)).cell? ⟨E,2,none⟩=some (.int .i64 a5):=(by simp [go_sem,c2]);have b2:(U.setCell ⟨E,0,none⟩ (Value.slice N (H.length+1) j)).frozen? ⟨E,2,none⟩=false:=(by simpa using f2);have x2:=D.cell (a:=⟨E,2,none⟩) (dS _ a2) O;have y2:w2.frozen? ⟨E,2,none⟩=false:=(World.frozen?_of_block (D.block E (by simp;omega) O)).trans (dQ _ a2 b2);refine ⟨rfl,Value.slice N (H.length+1) j,Value.slice ua (L.length+1) G,⟨J.big,by simp [go_sem,x0],by simp [go_sem,y0],by simp [go_sem,x1],by simp [go_sem,y1],by simp [go_sem,x2],by simp [go_sem,y2],?_,?_,d3,b6,g5,?_,?_,?_⟩,fr⟩
 ·have h1:=dP (World.ownsRow.kept (World.ownsRow.alloc HA.out _) D (by
   cases g0:(Value.slice N (H.length+1) j).ownBlock with
   | none=>exact .inl rfl
   | some g=>exact .inr fun e=>d8 g g0 e.symm)) ⟨E,1,none⟩ (Value.slice ua (L.length+1) G) b6
  rw [List.length_append];exact h1
 ·have:=dP b3 ⟨E,1,none⟩ (Value.slice ua (L.length+1) G) d3;rw [pX,List.length_append];simpa [iS,b9] using this
 ·have d6:=f5.out;rw [b9] at d6;exact lH.snoc fr.blk fr.mono J.once d6
 ·intro y hy;rcases List.mem_append.1 hy with h | h
  ·exact fr.rep (J.rep y h)
  ·simp at h;subst h;exact fr.rep hX
 ·intro y hy;rcases List.mem_append.1 hy with h | h
  ·exact fr.post (J.rep y h) (J.post y h)
  ·simp at h;subst h;exact fr.post hX HP.out
theorem yB (h:List Mk) (x:Mk):(iS (h++[x]))[h.length*2]?=some x.v/\(iS (h++[x]))[h.length*2+1]?=some (.int .i64 x.n):=by
 rw [pX];constructor
 ·rw [List.getElem?_append_right (by rw [kR];omega),kR];simp [iS]
 ·rw [List.getElem?_append_right (by rw [kR];omega),kR];simp [iS]
theorem aDs (B:Nat) (w:World) (G:Nat) (nv rv:Value) (A:List Mk) (U:List Value) (E:Int) (x:Mk) (j:Bst B w G nv rv (A++[x]) U E) (hB:B<=w.heap.size) (hl:A.length<=1048576) :
  Calls prog 151 #[.pointer (some ⟨G,0,none⟩)] w fun e w'=>e=.returned (.agg #[x.v,.int .i64 x.n])/\∃ O,Bst B w' G nv O A U E/\Fr B G nv rv nv O w w':=by
 obtain ⟨t,u,N⟩:=(j.rep x (by simp)).form;rcases j.row.2 with ⟨_,h0⟩ | ⟨g,cap,c7,a6,a4,hg,a7,a8,Y,J⟩
 ·simp at h0
 subst a6;have D:=j.row;have m0:=World.ownsRow.cellAt D (A.length*2) (by simp<;>omega);have m1:=World.ownsRow.cellAt D (A.length*2+1) (by simp<;>omega);rw [(yB A x).1,N] at m0;rw [(yB A x).2] at m1;have c1:=j.c1;have f1:=j.f1;have c6:=j.lt;have HS:Hid (Bst B w G nv (.slice (some ⟨g,0,none⟩) (A++[x]).length cap) (A++[x]) U E):=j;have M:g≠G:=fun e=>j.ap (by rw [e];rfl);have b4:=(Array.getElem?_eq_some_iff.1 hg).1;have a5:(A++[x]).length=A.length+1:=(by simp);rw [a5] at c1 a7;unfold maxLen at a8;have H:=aC6 D (m:=A.length) (by simp);clear j D hg Y J a4;rw [N]
 go_enter func151,ntmps151
 go_wp2
 go_returns
 have j:=HS.out;have L:Below B w (w.setCell ⟨G,1,none⟩ (.slice (some ⟨g,0,none⟩) A.length cap)):=(Below.refl B w).setCell j.big _
 have S:Fr B G nv (.slice (some ⟨g,0,none⟩) (A++[x]).length cap) nv (.slice (some ⟨g,0,none⟩) A.length cap) w (w.setCell ⟨G,1,none⟩ (.slice (some ⟨g,0,none⟩) A.length cap)):=by
  refine ⟨L,?_,fun _ _ h=>h⟩;intro b hb a9;exact heap_setCell_other _ _ _ _ (fun e=>a9 (.inl (by simpa using e)))
 have Z:Bst B (w.setCell ⟨G,1,none⟩ (.slice (some ⟨g,0,none⟩) A.length cap)) G nv (.slice (some ⟨g,0,none⟩) A.length cap) A U E:=by
  refine ⟨j.big,?_,by simpa using j.f0,World.cell?_setCell_same' _ _ _ (by rw [c1];rfl),by simpa using f1,?_,by simpa using j.f2,dP j.nrow _ _ j.nap,?_,by simpa [Value.ownBlock] using M,j.nap,j.nr,j.once.turn S.blk S.mono,fun y X=>S.rep (j.rep y (by simp [X])),fun y X=>S.post (j.rep y (by simp [X])) (j.post y (by simp [X]))⟩
  ·have:=j.c0;simp [go_sem,this]
  ·have:=j.c2;simp [go_sem,this]
  ·refine dP ?_ _ _ (by simpa [Value.ownBlock] using M);have e1:(iS (A++[x])).take (A.length*2)=iS A:=(by rw [pX,<- kR A];exact List.take_left);rw [e1] at H;exact H
 have gg:∀ (W:World) (o1 o2:Obj),W.grownBy ((W.alloc o1).alloc o2) none:=fun _ _ _=>aA gWA gWA;exact ⟨rfl,_,Z.K (gg _ _ _),S.grown (gg _ _ _) hB⟩
def cF (rs:List Mk):List (Tr × Int):=(rs.map fun x=>(x.T,x.n)).reverse
theorem eP (h:List Mk) (x:Mk):cF (h++[x])=(x.T,x.n)::cF h:=by simp [cF]
theorem rB (h:List Mk):(cF h).length=h.length:=by simp [cF]
def fY (B:Nat) (w:World) (bb k:Nat) (o:Option (Int × List (Tr × Int))) (e:Ending) (w':World):Prop:=
 Below B w w'/\match o with
  | none=>e=.returned (.bool false)
  | some (r,st)=>e=.returned (.bool true)/\∃ nv rv rs,cF rs=st/\Bst B w' bb nv rv rs (cB rs) r/\(cB rs).length=k
theorem aG4 (t:List Int) (k:Nat) (u:k<t.length) (h:10 ∉ t.take k) (j:¬ t[k]?.getD 0=10):10 ∉ t.take (k+1):=by
 rw [dF t k u];simp only [List.mem_append,List.mem_cons,List.not_mem_nil,or_false,not_or];exact ⟨h,fun e=>j e.symm⟩
theorem yK (v:Value) (t:List Int) (w:World) (hv:RdB w.heap.size w v t) (N:t.length<=1048576) :
  Calls prog 164 #[v,.int .u8 10] w fun e w'=>(∃ i:Int,e=.returned (.int .i64 i)/\decide (0<=i)=t.contains 10)/\w=w':=by
 obtain ⟨a,cap,rfl,A⟩:=hv
 go_enter func164,ntmps164
 go_wp2
 go_loopw [8] (fun i wr=>∃ k:Nat,k<=t.length/\i=.int .i64 k/\Hid (10 ∉ t.take k)/\Hid (wr=w)) (fun i _=>t.length - (intOf i).toNat)
 case atStart=>exact ⟨0,Nat.zero_le _,rfl,by unfold Hid;simp,rfl⟩
 case round=>
  obtain ⟨k,O,rfl,u,L⟩:=hrel;have G:=L.out;clear L;subst G
  by_cases j:k<t.length
  ·obtain ⟨b,off,rfl,S,H⟩:=A (fun e=>by rw [e] at j;simp at j);have J:=H k j;clear H A
   by_cases h:t[k]?.getD 0=10
   ·have D:Hid (t.contains 10=true):=by
     unfold Hid;rw [List.contains_iff_mem,<- h];simp [j]
    have y:((10:Int)==10)=true:=rfl;rw [h] at J;clear h;go_wp2;go_ret;exact ⟨⟨k,rfl,by rw [D.out];simp⟩,rfl⟩
   ·have M:Hid (10 ∉ t.take (k+1)):=aG4 t k j u.out h;have y:((10:Int)==(t[k]?.getD 0))=false:=(by simp;exact fun e=>h e.symm);generalize t[k]?.getD 0=z at J y;clear h;go_wp2
    go_roundw
    case rel=>exact ⟨k+1,by omega,by go_num,M,by first | rfl | trivial⟩
    case measure=>simp [intOf];omega
  ·have E:k=t.length:=by omega
   have D:Hid (t.contains 10=false):=by
    have:=u.out;rw [E,List.take_length] at this;unfold Hid;simpa using this
   clear A;go_wp2;go_ret;exact ⟨⟨-1,rfl,by rw [D.out];rfl⟩,rfl⟩
theorem nF (v:Value) (t:List Int) (w:World) (hv:RdB w.heap.size w v t) (y:t.length<=1048576) :
  Calls prog 150 #[v,.int .u8 10] w fun e w'=>e=.returned (.bool (t.contains 10))/\w=w':=by
 have u:=yK v t w hv y;obtain ⟨a,cap,rfl,A⟩:=hv;clear A
 go_enter func150,ntmps150
 go_wp2_with fail
 refine u.mono ?_;rintro e D ⟨⟨i,rfl,h⟩,rfl⟩;have j:Hid (decide (0<=i)=t.contains 10):=h;clear h;go_wp2;go_ret;exact ⟨by rw [<- j.out];rfl,rfl⟩
theorem Bst.setRoom {B:Nat} {w:World} {u:Nat} {nv G:Value} {H:List Mk} {J:List Value} {A:Int} (h:Bst B w u nv G H J A) (r:Int):Bst B (w.setCell ⟨u,2,none⟩ (.int .i64 r)) u nv G H J r:=by
 have y:Below B w (w.setCell ⟨u,2,none⟩ (.int .i64 r)):=(Below.refl B w).setCell h.big _;have O:=h.c0;have N:=h.c1;have L:=h.c2
 have j:∀ b,b<w.heap.size->¬ Xof u nv G b->(w.setCell ⟨u,2,none⟩ (.int .i64 r)).heap[b]?=w.heap[b]?:=by
  intro b S E;exact heap_setCell_other _ _ _ _ (fun e=>E (.inl (by simpa using e)))
 refine ⟨h.big,by simp [go_sem,O],by simpa using h.f0,by simp [go_sem,N],by simpa using h.f1,by simp [go_sem,L],by simpa using h.f2,dP h.nrow _ _ h.nap,dP h.row _ _ h.ap,h.ap,h.nap,h.nr,h.once.turn j (fun _ _ h=>h),fun x D=>(h.rep x D).turn y.size j (fun _ _ h=>h) (fun tv t M=>Rd.below M y),fun x D=>(h.post x D).turn j (h.rep x D)⟩
def fW (room:Int) (st:List (Tr × Int)) (p:Pc):Option (Int × List (Tr × Int)):=
 if room<p.t.length then none else if aH p.t<0\/p.t.contains 10=true then none else some (room - p.t.length,(.leaf p,0)::st)
theorem aBe (B:Nat) (w:World) (E:Nat) (nv rv:Value) (D:List Mk) (j:Int) (p:Pc) (tv:Value) (hS:Bst B w E nv rv D (cB D) j) (hk:p.k=1) (hv:RdB B w tv p.t) (S:Sl tv p.t.length) (d5:Bys p.t) (hn:p.t.length<=1048576)
  (f7:0<=j) (d8:j<=100000) (hB:B<=w.heap.size) (d3:0<B) (hT:Tab w) (hl:D.length<=1048576) (d2:(cB D).length<=1048576) :
  Calls prog 125 #[.pointer (some ⟨E,0,none⟩),tv] w fun e w'=>fY B w E ((cB D).length+1) (fW j (cF D) p) e w':=by
 have c2:=hS.c2;have f2:=hS.f2;obtain ⟨ta,G,N,f4,d9⟩:=id S
 by_cases u:j<p.t.length
 ·have Z:Hid (fW j (cF D) p=none):=(by unfold Hid fW;rw [if_pos u]);subst N;clear hS hv hT
  go_enter func125,ntmps125
  go_wp2;go_ret;exact ⟨Below.refl _ _,by rw [Z.out];rfl⟩
 ·have O:Below B w (w.setCell ⟨E,2,none⟩ (.int .i64 (j - p.t.length))):=(Below.refl B w).setCell hS.big _;have U:Hid (Bst B (w.setCell ⟨E,2,none⟩ (.int .i64 (j - p.t.length))) E nv rv D (cB D) (j - p.t.length)):=hS.setRoom _;have L:Hid (Below B w (w.setCell ⟨E,2,none⟩ (.int .i64 (j - p.t.length)))):=O;have HV:Hid (RdB B (w.setCell ⟨E,2,none⟩ (.int .i64 (j - p.t.length))) tv p.t):=Rd.below hv O;have hW:=vI tv p.t (w.setCell ⟨E,2,none⟩ (.int .i64 (j - p.t.length))) (HV.out.wide (by simpa using hB)) d5 hn S (hT.below O d3);have b3:(w.setCell ⟨E,2,none⟩ (.int .i64 (j - p.t.length))).heap.size=w.heap.size:=(by simp);have b6:Hid ((w.setCell ⟨E,2,none⟩ (.int .i64 (j - p.t.length))).heap.size=w.heap.size):=b3;have c6:Hid (Sl tv p.t.length):=S;have a7:=aA6 p.t;clear hS hv hT O S b3
  by_cases b2:aH p.t<0
  ·have Z:Hid (fW j (cF D) p=none):=(by unfold Hid fW;rw [if_neg u,if_pos (.inl b2)]);generalize aH p.t=M at *;subst N;clear U HV a7
   go_enter func125,ntmps125
   go_wp2_with fail
   refine hW.mono ?_;rintro e y ⟨rfl,A⟩;go_wp2;go_ret;exact ⟨L.out.grown A (by simpa using hB) (fun k e=>by cases e),by rw [Z.out];rfl⟩
  ·cases H:p.t.contains 10 with
   | true=>
     have Z:Hid (fW j (cF D) p=none):=(by unfold Hid fW;rw [if_neg u,if_pos (.inr H)]);generalize aH p.t=M at *;subst N;clear U a7
     go_enter func125,ntmps125
     go_wp2_with fail
     refine hW.mono ?_;rintro e y ⟨rfl,A⟩;have hC:=nF _ p.t y ((HV.out.K A).wide (by have:=A.size;rw [b6.out] at this;omega)) hn;rw [H] at hC;clear H HV
     go_wp2_with fail
     refine hC.mono ?_;rintro e w3 ⟨rfl,rfl⟩;go_wp2;go_ret;exact ⟨L.out.grown A (by simpa using hB) (fun k e=>by cases e),by rw [Z.out];rfl⟩
   | false=>
     have Z:Hid (fW j (cF D) p=some (j - p.t.length,(.leaf p,0)::cF D)):=by
      unfold Hid fW;rw [if_neg u,if_neg (by rw [H];simp;omega)]
     have c1:Hid (∀ M,aH p.t=M->True):=fun _ _=>trivial;obtain ⟨M,J⟩:∃ M,M=aH p.t:=⟨_,rfl⟩;have d1:Hid (M=aH p.t):=J;rw [<- J] at hW b2;clear J a7 c1;subst N
     go_enter func125,ntmps125
     go_wp2_with fail
     refine hW.mono ?_;rintro e y ⟨rfl,A⟩;have c8:=A.size;rw [b6.out] at c8;have hC:=nF _ p.t y ((HV.out.K A).wide (by omega)) hn;rw [H] at hC;clear H
     go_wp2_with fail
     refine hC.mono ?_;rintro e w3 ⟨rfl,rfl⟩;have a5:y.grownBy (y.alloc (.cells #[.slice ta p.t.length G,.int .i64 M] 189)) none:=gWA;have b5:=(U.out.K A).K a5;have f6:=(U.out.K A).lt;have c9:=World.ownsRow.lt (U.out.K A).row;have d4:=World.ownsRow.lt (U.out.K A).nrow
     have a4:¬ Xof E nv rv y.heap.size:=by
      intro hx;rcases hx with h | h | h
      ·omega
      ·have:=d4 _ h;omega
      ·have:=c9 _ h;omega
     have X:Rep (Xof E nv rv) B (y.alloc (.cells #[.slice ta p.t.length G,.int .i64 M] 189)) (.iface 187 (.pointer (some ⟨y.heap.size,0,none⟩))) (.leaf p):=by
      simp only [Rep];exact .inr (.inr (.inr (.inr (.inr ⟨hk,y.heap.size,.slice ta p.t.length G,rfl,a4,by simp,by rw [<- d1.out];exact heap_alloc_new _ _,(HV.out.K A).K a5,c6.out⟩))))
     have b8:=(U.out.K A).once.new 187 y.heap.size (Nat.le_refl _);have b4:=kF B _ E nv rv D (cB D) (j - p.t.length) ⟨.iface 187 (.pointer (some ⟨y.heap.size,0,none⟩)),.leaf p,0,[.iface 187 (.pointer (some ⟨y.heap.size,0,none⟩))]⟩ b5 X rfl (fun t b e=>by cases e;exact ⟨⟨a4,_,_,heap_alloc_new _ _⟩,b8⟩) (by simp;omega) hl d2;have Y:Hid (Below B w (y.alloc (.cells #[.slice ta p.t.length G,.int .i64 M] 189))):=(L.out.grown A (by simpa using hB) (fun k e=>by cases e)).alloc (by omega) _;clear U HV b5 X a5 A hC hW b8 a4
     go_wp2_with fail
     refine b4.mono ?_;rintro e w4 ⟨rfl,d0,c7,c3,b7⟩;go_wp2;go_ret;refine ⟨Y.out.trans b7.bel,?_⟩;rw [Z.out];refine ⟨rfl,d0,c7,D++[⟨.iface 187 (.pointer (some ⟨y.heap.size,0,none⟩)),.leaf p,0,[.iface 187 (.pointer (some ⟨y.heap.size,0,none⟩))]⟩],eP _ _,?_,?_⟩
     ·rw [cZ,cX];exact c3
     ·rw [cZ,cX];simp
end Go.Proofs.YtgifkcpdihphlaaGreatDoor
