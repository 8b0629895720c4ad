import Derived.Test.YtckcaefnokeodaaGreatDoorMAM
set_option maxHeartbeats 16000000
set_option maxRecDepth 100000
namespace Go.Proofs.YtckcaefnokeodaaGreatDoor
open Go.Proofs.Tryz List World
section
open Go.RowKit Go.Shelf
attribute [local go_sem] Oper.semAt_some
theorem aCE (W:World) (v:Value) (t:TypeId):(W.alloc (.cells #[v] t)).cell? ⟨W.heap.size,0,none⟩=some v/\(W.alloc (.cells #[v] t)).frozen? ⟨W.heap.size,0,none⟩=false:=
 ⟨(Boxed.new W t v).cell,(Boxed.new W t v).frozen⟩
theorem dT {W:World} {a} {v:Value} (o) (h:W.cell? a=some v):(W.alloc o).cell? a=some v:=cell_kept h (grownBy_alloc W o none) (fun r e=>by cases e)
theorem dQ {W:World} {a} {v:Value} (o) (h:W.cell? a=some v) (A:W.frozen? a=false):(W.alloc o).frozen? a=false:=(frozen_kept h (grownBy_alloc W o none) (fun r e=>by cases e)).trans A
theorem aFy {A:List Int} (h:∀ x∈lB A,x.2≠-1):aF A=((lB A).length:Int):=by
 unfold aF;rw [aCq h];simp
theorem aFr {A} {q:List (Int × Int)} {x:Int × Int} (h:q++[x] <+: lB A) (D:x.2 = -1):aF A = -1:=by
 unfold aF;rw [aCb h D];simp
theorem xO (n:Nat) (hn:3<=n) (v E) (w:World) (hv:RdB w.heap.size w v E) (b0:Bys E) (hm:E.length<=1048576) (G:Sl v E.length) (hT:Tab w) :
  CallsIn Fence.wide n prog 142 #[v] w fun e w'=>e=.returned (.int .i64 (aF E))/\Below w.heap.size w w':=by
 have h1:1<=n:=(by omega);have b4:=G;obtain ⟨a,J,rfl,c3,c2⟩:=b4;have M:=hT.pos;refine callsIn_of_wp_marks func142 rfl trivial ?_ rfl;simp only [ntmps142,size_toArray,length_cons,length_nil,Nat.reduceAdd,Nat.reduceSub,Array.replicate_succ,Array.replicate_zero,push_toArray,append_toArray,nil_append,cons_append]
 gi_wp2_with fail
 refine ⟨trivial,(yV (n - 1) _ _ _ _).mono ?_⟩;rintro e w' ⟨rfl,rfl⟩
 gi_wp2_with fail
 have c0:=aCE w (.int .i64 0) 3;have c1:=aCE (w.alloc (.cells #[.int .i64 0] 3)) (.int .i64 0) 3;have bx:=Boxed.new ((w.alloc (.cells #[.int .i64 0] 3)).alloc (.cells #[.int .i64 0] 3)) 22 (.slice a E.length J);simp only [size_alloc] at c1 bx;have Z:Below w.heap.size w (((w.alloc (.cells #[.int .i64 0] 3)).alloc (.cells #[.int .i64 0] 3)).alloc (.cells #[.slice a E.length J] 22)):=(((Below.refl _ w).alloc (Nat.le_refl _) _).alloc (by simp) _).alloc (by simp;omega) _
 refine wpIn_rangeFunc_ownF rfl h1 (gf:=152) (lb:=#[.pointer (some ⟨w.heap.size+1+1,0,none⟩)]) rfl trivial (enters_of func152 (by kernel_rfl) rfl)
  (sE (n - 1) (by omega) (w.heap.size+1+1) w.heap.size _ E _ b0 (by omega) G bx (by simp;omega) (hv.below Z) (hT.below Z M) M) aLK (aLI (by simp;omega) (by simp)) (Below.refl _ _) (fun _=>rfl)
  (fun (F:List (Int × Int)) W=>((∀ x∈F,x.2≠-1)/\W.cell? ⟨w.heap.size+1,0,none⟩=some (.int .i64 (F.length:Int))/\W.frozen? ⟨w.heap.size+1,0,none⟩=false/\W.cell? ⟨w.heap.size,0,none⟩=some (.int .i64 0)/\W.frozen? ⟨w.heap.size,0,none⟩=false)/\Below w.heap.size w W)
  (fun c (F:List (Int × Int)) W=>(c=.ret/\(∃ (q:List (Int × Int)) (x:Int × Int),F=q++[x]/\x.2 = -1)/\W.cell? ⟨w.heap.size,0,none⟩=some (.int .i64 (-1)))/\Below w.heap.size w W)
  (OwnFrom.and (Own.from (fun s A B b2 G hg hr=>⟨G.1,cell_kept G.2.1 hg hr,(frozen_kept G.2.1 hg hr).trans G.2.2.1,cell_kept G.2.2.2.1 hg hr,(frozen_kept G.2.2.2.1 hg hr).trans G.2.2.2.2⟩) _) (ownFrom_below (Nat.le_refl _) (by simp;omega)))
  (fun c=>OwnFrom.and (Own.from (fun s A B b2 G hg hr=>⟨G.1,G.2.1,cell_kept G.2.2 hg hr⟩) _) (ownFrom_below (Nat.le_refl _) (by simp;omega)))
  ⟨⟨by simp,dT _ c1.1,dQ _ c1.1 c1.2,dT _ (dT _ c0.1),dQ _ (dT _ c0.1) (dQ _ c0.1 c0.2)⟩,Z⟩
  (fun x=>{ tmps:=#[.slice a E.length J,undef,.pointer (some ⟨w.heap.size,0,none⟩),.pointer (some ⟨w.heap.size+1,0,none⟩),undef,.int .i32 x.2,.slice a E.length J,.func (.func 152) #[] #[.pointer (some ⟨w.heap.size+1+1,0,none⟩)],.int .i64 x.1,.int .i32 x.2,undef,undef,undef,undef,undef],defers:=[] }) ?assign ?body ?done ?stop
 case assign=>
  intro l x W K N
  gi_wp2
  exact N
 case body=>
  rintro l F x W ⟨⟨I,a3,a7,H,a5⟩,hB⟩ b8
  gi_wp2
  .rename_i hx
   have S:x.2 = -1:=(by simpa using hx);exact ⟨KeepsOthers.setCell _ _ _,⟨rfl,⟨F,x,rfl,S⟩,cell?_setCell_same' _ _ _ (by rw [H];rfl)⟩,hB.setCell (p:=⟨w.heap.size,0,none⟩) (Nat.le_refl _) _⟩
  .rename_i hx
   have S:x.2≠-1:=(by simpa using hx);refine ⟨KeepsOthers.setCell _ _ _,⟨(Below.refl w.heap.size W).setCell (p:=⟨w.heap.size+1,0,none⟩) (by simp) _,Below.heap_setCell _ _ _ _ (by simp)⟩,⟨?_,?_,?_,?_,?_⟩,hB.setCell (p:=⟨w.heap.size+1,0,none⟩) (by simp) _⟩
   .intro y hy;rcases mem_append.1 hy with h | h
    .exact I y h
    .simp at h;subst h;exact S
   .rw [cell?_setCell_same' _ _ _ (by rw [a3];rfl)];simp
   .rw [frozen?_setCell];exact a7
   .exact (cell?_setCell_other _ _ _ _ (by simp)).trans H
   .rw [frozen?_setCell];exact a5
 case done=>
  rintro D ys W hD rfl ⟨⟨I,a3,a7,H,a5⟩,hB⟩ N;have HW:Hid (aF E=((lB E).length:Int)):=aFy I
  gi_wp2
  have O:=(KeepsOthers.setCell W ⟨w.heap.size,0,none⟩ (.int .i64 ((lB E).length:Int))).same D _ N rfl;refine ⟨by simp,.inl ⟨_,_,rfl,run_takeDeferred O,?_⟩⟩;have Y:=cell_kept (cell?_setCell_same' W ⟨w.heap.size,0,none⟩ (.int .i64 ((lB E).length:Int)) (by rw [H];rfl)) (grownBy_putObj' _ D (.deferred none)) (fun r e=>by cases e;exact ⟨_,O,rfl⟩);refine ⟨.int .i64 ((lB E).length:Int),?_,by rw [HW.out],(hB.setCell (p:=⟨w.heap.size,0,none⟩) (Nat.le_refl _) _).trans (belowK_b (w:=w) (Nat.le_refl _) _ D _ _ (by simp at hD;omega) O rfl rfl)⟩;simp [results,Tryz.f142,go_sem,Y]
 case stop=>
  rintro D c F W hD a4 ⟨⟨rfl,⟨q,x,hq,hx⟩,H⟩,hB⟩ N;have HW:Hid (aF E = -1):=aFr (by rw [<- hq];exact a4) hx
  gi_wp2
  refine ⟨by simp,.inl ⟨_,_,rfl,run_takeDeferred N,?_⟩⟩;have Y:=cell_kept H (grownBy_putObj' _ D (.deferred none)) (fun r e=>by cases e;exact ⟨_,N,rfl⟩);refine ⟨.int .i64 (-1),?_,by rw [HW.out],hB.trans (belowK_b (w:=w) (Nat.le_refl _) W D _ _ (by simp at hD;omega) N rfl rfl)⟩;simp [results,Tryz.f142,go_sem,Y]
theorem vN (v A) (w:World) (E:RdB w.heap.size w v A) (D:Bys A) (G:A.length<=1048576) (F:Sl v A.length) (I:Tab w) :
  Calls prog 142 #[v] w fun e H=>e=.returned (.int .i64 (aF A))/\w.grownBy H none:=
 (callsIn_wide.1 (xO 3 (Nat.le_refl _) v A w E D G F I)).mono fun _ _ h=>⟨h.1,aC h.2⟩
end
open Go.RowKit
theorem aJx:(prog.info? 63).map (fun i=>(i.zero,i.size,i.bytes))=some (some .nilIface,1,16):=by kernel_rfl
theorem aIj:(prog.info? 210).map (fun i=>(i.zero,i.size,i.bytes))=some (some (.agg #[.nilIface,.int .i64 0]),2,24):=by kernel_rfl
def Rep (X:Nat->Prop) (B:Nat) (w:World):Value->Tr->Prop
 | v,.leaf p=>
   (p.k=0/\v=.iface 164 (.agg #[]))\/(p.k=2/\v=.iface 165 (.agg #[]))\/(p.k=3/\v=.iface 166 (.agg #[]))\/
   (p.k=4/\v=.iface 167 (.agg #[]))\/(p.k=5/\v=.iface 168 (.agg #[]))\/
   (p.k=1/\∃ b tv,v=.iface 169 (.pointer (some ⟨b,0,none⟩))/\¬ X b/\b<w.heap.size/\w.heap[b]?=some (.cells #[tv,.int .i64 (aF p.t)] 171)/\RdB B w tv p.t/\Sl tv p.t.length)
 | v,.un p x=>
   ∃ b u,¬ X b/\b<w.heap.size/\w.cell? ⟨b,0,none⟩=some u/\Rep X B w u x/\
    ((p.k=8/\v=.iface 177 (.pointer (some ⟨b,0,none⟩)))\/(p.k=7/\v=.iface 172 (.pointer (some ⟨b,0,none⟩))))
 | v,.bin p x y=>
   ∃ b u u',¬ X b/\b<w.heap.size/\w.cell? ⟨b,0,none⟩=some u/\w.cell? ⟨b,1,none⟩=some u'/\Rep X B w u x/\Rep X B w u' y/\
    ((p.k=6/\v=.iface 180 (.pointer (some ⟨b,0,none⟩)))\/(p.k=9/\v=.iface 184 (.pointer (some ⟨b,0,none⟩))))
theorem Rep.turn {X X':Nat->Prop} {B} {w N:World} (Z:w.heap.size<=N.heap.size) (G:∀ b,b<w.heap.size->¬ X b->N.heap[b]?=w.heap[b]?) (E:∀ b,b<w.heap.size->X' b->X b) (M:∀ O t,RdB B w O t->RdB B N O t):∀ {T:Tr} {v:Value},Rep X B w v T->Rep X' B N v T
 | .leaf p,v,h=>by
   simp only [Rep] at h ⊢;rcases h with h | h | h | h | h | ⟨h1,b,O,h2,A,D,H,J,h8⟩
   .exact .inl h
   .exact .inr (.inl h)
   .exact .inr (.inr (.inl h))
   .exact .inr (.inr (.inr (.inl h)))
   .exact .inr (.inr (.inr (.inr (.inl h))))
   .have F:=G b D A;exact .inr (.inr (.inr (.inr (.inr ⟨h1,b,O,h2,fun I=>A (E b D I),by omega,F.trans H,M _ _ J,h8⟩))))
 | .un p x,v,h=>by
   simp only [Rep] at h ⊢;obtain ⟨b,u,A,D,H,Y,J⟩:=h;have F:=G b D A;exact ⟨b,u,fun I=>A (E b D I),by omega,(cell?_of_block F).trans H,Y.turn Z G E M,J⟩
 | .bin p x y,v,h=>by
   simp only [Rep] at h ⊢;obtain ⟨b,u,u',A,D,H,S,Y,a0,J⟩:=h;have F:=G b D A;exact ⟨b,u,u',fun I=>A (E b D I),by omega,(cell?_of_block F).trans H,(cell?_of_block F).trans S,Y.turn Z G E M,a0.turn Z G E M,J⟩
theorem Rep.form {X:Nat->Prop} {B w} : ∀ {T:Tr} {v:Value},Rep X B w v T->∃ t u,v=.iface t u
 | .leaf p,v,h=>by
   simp only [Rep] at h;rcases h with h | h | h | h | h | ⟨O,b,M,H,_⟩
   .exact ⟨_,_,h.2⟩
   .exact ⟨_,_,h.2⟩
   .exact ⟨_,_,h.2⟩
   .exact ⟨_,_,h.2⟩
   .exact ⟨_,_,h.2⟩
   .exact ⟨_,_,H⟩
 | .un p x,v,h=>by
   simp only [Rep] at h;obtain ⟨b,u,I,D,E,F,A | A⟩:=h
   .exact ⟨_,_,A.2⟩
   .exact ⟨_,_,A.2⟩
 | .bin p x y,v,h=>by
   simp only [Rep] at h;obtain ⟨b,u,N,I,D,E,J,F,G,A | A⟩:=h
   .exact ⟨_,_,A.2⟩
   .exact ⟨_,_,A.2⟩
def cU (w:World):Value->Tr->List Value->Prop
 | v,.leaf _,l=>l=[v]
 | v,.un p x,l=>∃ t b u l1,v=.iface t (.pointer (some ⟨b,0,none⟩))/\w.cell? ⟨b,0,none⟩=some u/\(p.k=7->w.cell? ⟨b,1,none⟩=some (.int .i64 p.n))/\cU w u x l1/\l=l1++[v]
 | v,.bin _ x y,l=>∃ t b u u' l1 l2,v=.iface t (.pointer (some ⟨b,0,none⟩))/\w.cell? ⟨b,0,none⟩=some u/\w.cell? ⟨b,1,none⟩=some u'/\cU w u x l1/\cU w u' y l2/\l=l1++l2++[v]
theorem cU.turn {X:Nat->Prop} {B} {w w':World} (I:∀ b,b<w.heap.size->¬ X b->w'.heap[b]?=w.heap[b]?):∀ {T:Tr} {v:Value} {l:List Value},Rep X B w v T->cU w v T l->cU w' v T l
 | .leaf _,v,l,_,h=>h
 | .un p x,v,l,hr,h=>by
   simp only [Rep] at hr;simp only [cU] at h ⊢;obtain ⟨b0,u0,S,h4,O,h6,A⟩:=hr;obtain ⟨t,b,u,Z,J,D,k2,k3,M⟩:=h
   have F:b=b0:=by
    rcases A with ⟨_,A⟩ | ⟨_,A⟩<;>(rw [J] at A;simp at A;exact A.2)
   subst F;have H:=I b h4 S;have N:u0=u:=(by rw [O] at D;exact Option.some.inj D);subst N;exact ⟨t,b,u0,Z,J,(cell?_of_block H).trans D,fun e=>(cell?_of_block H).trans (k2 e),k3.turn I h6,M⟩
 | .bin p x y,v,l,hr,h=>by
   simp only [Rep] at hr;simp only [cU] at h ⊢;obtain ⟨b0,u0,G,S,h4,O,Y,h6,a3,A⟩:=hr;obtain ⟨t,b,u,u',Z,l2,J,D,E,k3,a4,M⟩:=h
   have F:b=b0:=by
    rcases A with ⟨_,A⟩ | ⟨_,A⟩<;>(rw [J] at A;simp at A;exact A.2)
   subst F;have H:=I b h4 S;have N:u0=u:=(by rw [O] at D;exact Option.some.inj D);have a0:G=u':=(by rw [Y] at E;exact Option.some.inj E);subst N a0;exact ⟨t,b,u0,G,Z,l2,J,(cell?_of_block H).trans D,(cell?_of_block H).trans E,k3.turn I h6,a4.turn I a3,M⟩
structure Mk where
 v:Value
 T:Tr
 n:Int
 l:List Value
def jJ:List Mk->List Value
 | []=>[]
 | x::r=>x.v::.int .i64 x.n::jJ r
def cF:List Mk->List Value
 | []=>[]
 | x::r=>x.l++cF r
theorem lI:∀ (r:List Mk),(jJ r).length=r.length*2
 | []=>rfl
 | x::r=>by simp only [jJ,length_cons,lI r];omega
theorem qN:∀ (r s:List Mk),jJ (r++s)=jJ r++jJ s
 | [],s=>rfl
 | x::r,s=>by simp only [cons_append,jJ,qN r s]
theorem cX:∀ (r s:List Mk),cF (r++s)=cF r++cF s
 | [],s=>rfl
 | x::r,s=>by simp only [cons_append,cF,cX r s,append_assoc]
theorem cY (x:Mk):cF [x]=x.l:=by simp [cF]
def Xof (bb:Nat) (nv rv:Value) (b:Nat):Prop:=b=bb\/nv.ownBlock=some b\/rv.ownBlock=some b
structure lY (X:Nat->Prop) (w:World) (ns:List Value):Prop where
 nd:ns.Pairwise fun x y=>∀ t b,y=.iface t (.pointer (some ⟨b,0,none⟩))->x≠y
 lt:∀ t b,.iface t (.pointer (some ⟨b,0,none⟩))∈ns->¬ X b/\∃ cs t',w.heap[b]?=some (.cells cs t')
theorem lY.lts {X:Nat->Prop} {w A} (h:lY X w A) {t:TypeId} {b:Nat} (D : .iface t (.pointer (some ⟨b,0,none⟩))∈A):b<w.heap.size:=by
 obtain ⟨_,G,F,E⟩:=h.lt t b D;exact (Array.getElem?_eq_some_iff.1 E).1
theorem lY.turn {X A:Nat->Prop} {w F:World} {H} (I:∀ b,b<w.heap.size->¬ X b->F.heap[b]?=w.heap[b]?) (S:∀ b,b<w.heap.size->A b->X b) (h:lY X w H):lY A F H:=by
 refine ⟨h.nd,fun t b E=>?_⟩;have G:=h.lts E;obtain ⟨D,N,J,M⟩:=h.lt t b E;exact ⟨fun O=>D (S b G O),N,J,(I b G D).trans M⟩
theorem lY.snoc {X M:Nat->Prop} {w O:World} {G} {v:Value} (H:∀ b,b<w.heap.size->¬ X b->O.heap[b]?=w.heap[b]?) (N:∀ b,b<w.heap.size->M b->X b) (h:lY X w G) (I:∀ t b,v=.iface t (.pointer (some ⟨b,0,none⟩))->(¬ X b/\∃ F E,w.heap[b]?=some (.cells F E))/\v ∉ G):lY M O (G++[v]):=by
 refine ⟨?_,?_⟩
 .rw [pairwise_append];refine ⟨h.nd,by simp,?_⟩;intro a Y b A t k Z e;simp only [mem_singleton] at A;subst A;subst e;exact (I t k Z).2 Y
 .intro t b hm;rcases mem_append.1 hm with D | D
  .exact (h.turn H N).lt t b D
  .simp only [mem_singleton] at D;obtain ⟨⟨J,F,E,S⟩,_⟩:=I t b D.symm;have A:=(Array.getElem?_eq_some_iff.1 S).1;exact ⟨fun hx=>J (N b A hx),F,E,(H b A J).trans S⟩
theorem lY.new {X:Nat->Prop} {w A} (h:lY X w A) (t:TypeId) (b:Nat) (E:w.heap.size<=b) : .iface t (.pointer (some ⟨b,0,none⟩)) ∉ A:=fun D=>by
 have:=h.lts D;omega
structure Bst (B:Nat) (w:World) (bb:Nat) (nv rv:Value) (rs:List Mk) (ns:List Value) (room:Int):Prop where
 big:B<=bb
 c0:w.cell? ⟨bb,0,none⟩=some nv
 f0:w.frozen? ⟨bb,0,none⟩=false
 c1:w.cell? ⟨bb,1,none⟩=some rv
 f1:w.frozen? ⟨bb,1,none⟩=false
 c2:w.cell? ⟨bb,2,none⟩=some (.int .i64 room)
 f2:w.frozen? ⟨bb,2,none⟩=false
 nrow:w.ownsRow B 63 1 nv ns.length ns
 row:w.ownsRow B 210 2 rv rs.length (jJ rs)
 ap:rv.ownBlock≠some bb
 nap:nv.ownBlock≠some bb
 nr:∀ g,nv.ownBlock=some g->rv.ownBlock≠some g
 once:lY (Xof bb nv rv) w ns
 rep:∀ x∈rs,Rep (Xof bb nv rv) B w x.v x.T
 post:∀ x∈rs,cU w x.v x.T x.l
theorem Bst.lt {B w D E G F H A} (h:Bst B w D E G F H A):D<w.heap.size:=block_lt_of_cell? w _ h.c0
theorem Bst.K {B w w' I G H J M D} (h:Bst B w I G H J M D) (A:w.grownBy w' none):Bst B w' I G H J M D:=by
 have a:=uA A h.c0 h.f0;have b:=uA A h.c1 h.f1;have c:=uA A h.c2 h.f2
 refine ⟨h.big,a.1,a.2,b.1,b.2,c.1,c.2,ownsRow.kept h.nrow A (by cases G.ownBlock<;>simp),ownsRow.kept h.row A (by cases H.ownBlock<;>simp),h.ap,h.nap,h.nr,h.once.turn (fun b E _=>A.block b E (by simp)) (fun _ _ h=>h),fun x F=>(h.rep x F).turn A.size (fun b E _=>A.block b E (by simp)) (fun _ _ h=>h) (fun O t N=>N.K A),
  fun x F=>(h.post x F).turn (fun b E _=>A.block b E (by simp)) (h.rep x F)⟩
theorem Rep.K {X:Nat->Prop} {B w w' T v} (h:Rep X B w v T) (A:w.grownBy w' none):Rep X B w' v T:=
 h.turn A.size (fun b E _=>A.block b E (by simp)) (fun _ _ h=>h) (fun F t D=>D.K A)
theorem cU.K {X:Nat->Prop} {B w w' T v l} (h:cU w v T l) (D:Rep X B w v T) (A:w.grownBy w' none):cU w' v T l:=
 h.turn (fun b E _=>A.block b E (by simp)) D
structure Fr (B bb:Nat) (nv rv nv' rv':Value) (w w':World):Prop where
 bel:Below B w w'
 blk:∀ b,b<w.heap.size->¬ Xof bb nv rv b->w'.heap[b]?=w.heap[b]?
 mono:∀ b,b<w.heap.size->Xof bb nv' rv' b->Xof bb nv rv b
theorem Fr.rep {B E G H A D w I} (h:Fr B E G H A D w I) {T v} (F:Rep (Xof E G H) B w v T):Rep (Xof E A D) B I v T:=
 F.turn h.bel.size h.blk h.mono (fun _ _ F=>Rd.below F h.bel)
theorem Fr.post {B E F G A D w H} (h:Fr B E F G A D w H) {T v l} (J:Rep (Xof E F G) B w v T) (I:cU w v T l):cU H v T l:=
 I.turn h.blk J
theorem Fr.cell {B E G H A D w I} (h:Fr B E G H A D w I) {a} {v:Value} (F:w.cell? a=some v) (J:¬ Xof E G H a.block):I.cell? a=some v:=
 (cell?_of_block (h.blk a.block (block_lt_of_cell? w a F) J)).trans F
theorem Fr.grown {B E G J A D w H I} (h:Fr B E G J A D w H) (F:H.grownBy I none) (O:B<=w.heap.size):Fr B E G J A D w I:=
 ⟨h.bel.grown F (Nat.le_trans O h.bel.size) (fun k e=>by cases e),fun b M N=>(F.block b (Nat.lt_of_lt_of_le M h.bel.size) (by simp)).trans (h.blk b M N),h.mono⟩
theorem Fr.trans {B H I N E F D G w O M} (h:Fr B H I N E F w O) (k:Fr B H E F D G O M):Fr B H I N D G w M:=
 ⟨h.bel.trans k.bel,fun b A J=>(k.blk b (Nat.lt_of_lt_of_le A h.bel.size) (fun e=>J (h.mono b A e))).trans (h.blk b A J),fun b A e=>h.mono b A (k.mono b (Nat.lt_of_lt_of_le A h.bel.size) e)⟩
theorem aFg (w:World) (x y:Value) (t:TypeId):∀ j u,[x,y][j]?=some u->(w.alloc (.cells #[x,y] t)).cell? ((⟨w.heap.size,0,none⟩:Addr).add j)=some u:=by
 intro j u h
 match j,h with
 | 0,h=>
   simp at h;subst h;simp [Addr.add]
 | 1,h=>
   simp at h;subst h;simp [Addr.add]
theorem qS (w:World) (x:Value) (t:TypeId):∀ j u,[x][j]?=some u->(w.alloc (.cells #[x] t)).cell? ((⟨w.heap.size,0,none⟩:Addr).add j)=some u:=by
 intro j u h
 match j,h with
 | 0,h=>
   simp at h;subst h;simp [Addr.add]
theorem kQ (B w F nv rv J H a6) (x:Mk) (I:Bst B w F nv rv J H a6) (hx:Rep (Xof F nv rv) B w x.v x.T) (hp:cU w x.v x.T x.l) (hf:∀ t b,x.v=.iface t (.pointer (some ⟨b,0,none⟩))->(¬ Xof F nv rv b/\∃ cs t',w.heap[b]?=some (.cells cs t'))/\x.v ∉ H) (hB:B<=w.heap.size) (hl:J.length<=1048576) (l6:H.length<=1048576) :
  Calls prog 105 #[.pointer (some ⟨F,0,none⟩),x.v,.int .i64 x.n] w fun e w'=>e=.returned (.tuple #[])/\∃ d8 d7,Bst B w' F d8 d7 (J++[x]) (H++[x.v]) a6/\Fr B F nv rv d8 d7 w w':=by
 obtain ⟨i0,hi,f7,g0,f8⟩:=info_parts aIj;obtain ⟨j0,hj,g4,g9,f9⟩:=info_parts aJx;obtain ⟨t,u,b9⟩:=hx.form;obtain ⟨ra,M,g5,_,_⟩:=aZ I.row;obtain ⟨na,a9,h0,_,_⟩:=aZ I.nrow;have c0:=I.c0;have f0:=I.f0;have c1:=I.c1;have f1:=I.f1;have l2:=I.lt;have HS:Hid (Bst B w F nv rv J H a6):=I;have HX:Hid (Rep (Xof F nv rv) B w x.v x.T):=hx;have HP:Hid (cU w x.v x.T x.l):=hp;have h9:Hid (∀ t b,x.v=.iface t (.pointer (some ⟨b,0,none⟩))->(¬ Xof F nv rv b/\∃ cs t',w.heap[b]?=some (.cells cs t'))/\x.v ∉ H):=hf;have b3:=I.row;have a8:=I.nrow;have b8:=I.ap;have b6:=I.nap;have d4:=I.nr;clear I hx hp hf;rw [b9];subst g5;subst h0
 go_enter func105,ntmps105
 go_wp2_with (at_builtin;refine wpList_append_own_at _ rfl _ _ 65 rfl B 63 j0 .nilIface 1 16 underlying65 hj g4 g9 f9 rfl (by decide) _ _ _ rfl (ownsRow.alloc a8 _) ⟨w.heap.size,0,none⟩ 1 1 [.iface t u] rfl rfl (qS _ _ _) (by intro u hu;simp at hu;subst hu;rfl) (by unfold maxLen;omega) (by omega) (by simp;omega) ?_)
 intro v1 Y a5 E _ c9;obtain ⟨O,A,h3,_,_⟩:=aZ a5;subst h3;have N:some F≠(Value.slice na H.length a9).ownBlock:=fun e=>b6 e.symm;have d0:=E.cell (a:=⟨F,0,none⟩) (dT _ c0) N;have e0:Y.frozen? ⟨F,0,none⟩=false:=(frozen?_of_block (E.block F (by simp;omega) N)).trans (dQ _ c0 f0);have d1:=E.cell (a:=⟨F,1,none⟩) (dT _ c1) N;have e1:Y.frozen? ⟨F,1,none⟩=false:=(frozen?_of_block (E.block F (by simp;omega) N)).trans (dQ _ c1 f1)
 have a3:(Value.slice O (H.length+1) A).ownBlock=(Value.slice na H.length a9).ownBlock\/(Value.slice O (H.length+1) A).ownBlock=some (w.heap.size+1):=by
  rcases c9 with h | h
  .exact .inl h
  .exact .inr (h.trans (by simp))
 have b7:(Value.slice O (H.length+1) A).ownBlock≠some F:=by
  intro e;rcases a3 with h | h
  .exact b6 (by rw [<- h];exact e)
  .rw [e] at h;simp at h;omega
 have d5:=ownsRow.lt b3
 have d3:∀ g,(Value.slice O (H.length+1) A).ownBlock=some g->(Value.slice ra J.length M).ownBlock≠some g:=by
  intro g h1 Z;rcases a3 with h | h
  .exact d4 g (by rw [<- h];exact h1) Z
  .rw [h1] at h;simp at h;have:=d5 g Z;omega
 have h4:(Y.setCell ⟨F,0,none⟩ (Value.slice O (H.length+1) A)).ownsRow B 210 2 (.slice ra J.length M) J.length (jJ J):=by
  refine dP ?_ _ _ b8;refine ownsRow.kept (ownsRow.alloc b3 _) E ?_;cases i1:(Value.slice ra J.length M).ownBlock with
  | none=>exact .inl rfl
  | some g=>exact .inr fun e=>d4 g e.symm i1
 have h6:=E.size;simp only [size_alloc] at h6
 go_wp2_with (at_builtin;refine wpList_append_own_at _ rfl _ _ 116 rfl B 210 i0 (.agg #[.nilIface,.int .i64 0]) 2 24 underlying116 hi f7 g0 f8 rfl (by decide) _ _ _ rfl (ownsRow.alloc h4 _) ⟨Y.heap.size,0,none⟩ 1 1 [.iface t u,.int .i64 x.n] rfl rfl (by have:=aFg (Y.setCell ⟨F,0,none⟩ (Value.slice O (H.length+1) A)) (.iface t u) (.int .i64 x.n) 210;simpa using this) (by intro u hu;simp at hu;rcases hu with rfl | rfl<;>rfl) (by unfold maxLen;omega) (by omega) (by simp;omega) ?_)
 intro v2 w2 b4 D _ d6;obtain ⟨ua,G,h5,_,_⟩:=aZ b4;subst h5;have S:some F≠(Value.slice ra J.length M).ownBlock:=fun e=>b8 e.symm;have i8:F<Y.heap.size:=(by omega);have a0:(Y.setCell ⟨F,0,none⟩ (Value.slice O (H.length+1) A)).cell? ⟨F,0,none⟩=some (Value.slice O (H.length+1) A):=(by simp [go_sem,d0]);have a1:(Y.setCell ⟨F,0,none⟩ (Value.slice O (H.length+1) A)).cell? ⟨F,1,none⟩=some (Value.slice ra J.length M):=(by simp [go_sem,d1]);have b0:(Y.setCell ⟨F,0,none⟩ (Value.slice O (H.length+1) A)).frozen? ⟨F,0,none⟩=false:=(by simpa using e0);have b1:(Y.setCell ⟨F,0,none⟩ (Value.slice O (H.length+1) A)).frozen? ⟨F,1,none⟩=false:=(by simpa using e1);have x0:=D.cell (a:=⟨F,0,none⟩) (dT _ a0) S;have x1:=D.cell (a:=⟨F,1,none⟩) (dT _ a1) S;have y0:w2.frozen? ⟨F,0,none⟩=false:=(frozen?_of_block (D.block F (by simp;omega) S)).trans (dQ _ a0 b0);have y1:w2.frozen? ⟨F,1,none⟩=false:=(frozen?_of_block (D.block F (by simp;omega) S)).trans (dQ _ a1 b1);have HA:Hid ((Y.setCell ⟨F,0,none⟩ (Value.slice O (H.length+1) A)).ownsRow B 63 1 (Value.slice O (H.length+1) A) (H.length+1) (H++[.iface t u])):=dP a5 _ _ b7;clear a0 a1 b0 b1 d0 d1 e0 e1 c0 c1 f0 f1;go_wp2
 go_returns
 have I:=HS.out;have hX:=HX.out;have g7:=D.size;simp only [size_alloc,size_setCell] at g7
 have a4:(Value.slice ua (J.length+1) G).ownBlock=(Value.slice ra J.length M).ownBlock\/(Value.slice ua (J.length+1) G).ownBlock=some (Y.heap.size+1):=by
  rcases d6 with h | h
  .exact .inl h
  .exact .inr (h.trans (by simp))
 have d9:(Value.slice ua (J.length+1) G).ownBlock≠some F:=by
  intro e;rcases a4 with h | h
  .exact b8 (by rw [<- h];exact e)
  .rw [e] at h;simp at h;omega
 have f5:∀ g,(Value.slice O (H.length+1) A).ownBlock=some g->g<Y.heap.size:=fun g h=>(ownsRow.lt a5 g h).2
 have h8:∀ g,(Value.slice O (H.length+1) A).ownBlock=some g->(Value.slice ua (J.length+1) G).ownBlock≠some g:=by
  intro g h1 Z;rcases a4 with h | h
  .exact d3 g h1 (by rw [<- h];exact Z)
  .rw [Z] at h;simp at h;have:=f5 g h1;omega
 have h7:Below B w (w2.setCell ⟨F,1,none⟩ (Value.slice ua (J.length+1) G)):=
  (((((((Below.refl B w).alloc hB _).grown E (by simp;omega) (fun k hk=>(ownsRow.lt a8 k hk).1))).setCell I.big _).alloc (by simp;omega) _).grown D (by simp;omega) (fun k hk=>(ownsRow.lt b3 k hk).1)).setCell I.big _
 have fr:Fr B F (Value.slice na H.length a9) (Value.slice ra J.length M) (Value.slice O (H.length+1) A) (Value.slice ua (J.length+1) G) w (w2.setCell ⟨F,1,none⟩ (Value.slice ua (J.length+1) G)):=by
  refine ⟨h7,?_,?_⟩
  .intro b hb a7;unfold Xof at a7;rw [heap_setCell_other _ _ _ _ (fun e=>a7 (.inl (by simpa using e)))];rw [D.block b (by simp;omega) (fun e=>a7 (.inr (.inr e.symm)))];rw [Below.heap_alloc _ _ _ (by simp;omega)];rw [heap_setCell_other _ _ _ _ (fun e=>a7 (.inl (by simpa using e)))];rw [E.block b (by simp;omega) (fun e=>a7 (.inr (.inl e.symm)))];exact Below.heap_alloc w _ _ hb
  .intro b hb hx;unfold Xof at hx ⊢;rcases hx with h | h | h
   .exact .inl h
   .rcases a3 with Z | Z
    .exact .inr (.inl (by rw [<- Z];exact h))
    .rw [h] at Z;simp at Z;omega
   .rcases a4 with Z | Z
    .exact .inr (.inr (by rw [<- Z];exact h))
    .rw [h] at Z;simp at Z;omega
 have c2:=E.cell (a:=⟨F,2,none⟩) (dT _ I.c2) N;have f2:Y.frozen? ⟨F,2,none⟩=false:=(frozen?_of_block (E.block F (by simp;omega) N)).trans (dQ _ I.c2 I.f2);have a2:(Y.setCell ⟨F,0,none⟩ (Value.slice O (H.length+1) A)).cell? ⟨F,2,none⟩=some (.int .i64 a6):=(by simp [go_sem,c2]);have b2:(Y.setCell ⟨F,0,none⟩ (Value.slice O (H.length+1) A)).frozen? ⟨F,2,none⟩=false:=(by simpa using f2);have x2:=D.cell (a:=⟨F,2,none⟩) (dT _ a2) S;have y2:w2.frozen? ⟨F,2,none⟩=false:=(frozen?_of_block (D.block F (by simp;omega) S)).trans (dQ _ a2 b2);refine ⟨rfl,Value.slice O (H.length+1) A,Value.slice ua (J.length+1) G,⟨I.big,by simp [go_sem,x0],by simp [go_sem,y0],by simp [go_sem,x1],by simp [go_sem,y1],by simp [go_sem,x2],by simp [go_sem,y2],?_,?_,d9,b7,h8,?_,?_,?_⟩,fr⟩
 .have h1:=dP (ownsRow.kept (ownsRow.alloc HA.out _) D (by
   cases i5:(Value.slice O (H.length+1) A).ownBlock with
   | none=>exact .inl rfl
   | some g=>exact .inr fun e=>d3 g i5 e.symm)) ⟨F,1,none⟩ (Value.slice ua (J.length+1) G) b7
  rw [length_append];exact h1
 .have:=dP b4 ⟨F,1,none⟩ (Value.slice ua (J.length+1) G) d9;rw [qN,length_append];simpa [jJ,b9] using this
 .have f3:=h9.out;rw [b9] at f3;exact lY.snoc fr.blk fr.mono I.once f3
 .intro y hy;rcases mem_append.1 hy with h | h
  .exact fr.rep (I.rep y h)
  .simp at h;subst h;exact fr.rep hX
 .intro y hy;rcases mem_append.1 hy with h | h
  .exact fr.post (I.rep y h) (I.post y h)
  .simp at h;subst h;exact fr.post hX HP.out
theorem zE (h:List Mk) (x:Mk):(jJ (h++[x]))[h.length*2]?=some x.v/\(jJ (h++[x]))[h.length*2+1]?=some (.int .i64 x.n):=by
 rw [qN];constructor
 .rw [getElem?_append_right (by rw [lI];omega),lI];simp [jJ]
 .rw [getElem?_append_right (by rw [lI];omega),lI];simp [jJ]
theorem aDm (B w H J rv) (D:List Mk) (ns F) (x:Mk) (A:Bst B w H J rv (D++[x]) ns F) (hB:B<=w.heap.size) (hl:D.length<=1048576) :
  Calls prog 144 #[.pointer (some ⟨H,0,none⟩)] w fun e w'=>e=.returned (.agg #[x.v,.int .i64 x.n])/\∃ Y,Bst B w' H J Y D ns F/\Fr B H J rv J Y w w':=by
 obtain ⟨t,u,Z⟩:=(A.rep x (by simp)).form;rcases A.row.2 with ⟨_,h0⟩ | ⟨g,E,b5,a7,a9,hg,a8,a5,a2,M⟩
 .simp at h0
 subst a7;have G:=A.row;have m0:=ownsRow.cellAt G (D.length*2) (by simp<;>omega);have m1:=ownsRow.cellAt G (D.length*2+1) (by simp<;>omega);rw [(zE D x).1,Z] at m0;rw [(zE D x).2] at m1;have c1:=A.c1;have f1:=A.f1;have c5:=A.lt;have HS:Hid (Bst B w H J (.slice (some ⟨g,0,none⟩) (D++[x]).length E) (D++[x]) ns F):=A;have O:g≠H:=fun e=>A.ap (by rw [e];rfl);have b6:=(Array.getElem?_eq_some_iff.1 hg).1;have a3:(D++[x]).length=D.length+1:=(by simp);rw [a3] at c1 a8;unfold maxLen at a5;have I:=aDi G (m:=D.length) (by simp);clear A G hg a2 M a9;rw [Z]
 go_enter func144,ntmps144
 go_wp2
 go_returns
 have A:=HS.out;have N:Below B w (w.setCell ⟨H,1,none⟩ (.slice (some ⟨g,0,none⟩) D.length E)):=(Below.refl B w).setCell A.big _
 have S:Fr B H J (.slice (some ⟨g,0,none⟩) (D++[x]).length E) J (.slice (some ⟨g,0,none⟩) D.length E) w (w.setCell ⟨H,1,none⟩ (.slice (some ⟨g,0,none⟩) D.length E)):=by
  refine ⟨N,?_,fun _ _ h=>h⟩;intro b hb a6;exact heap_setCell_other _ _ _ _ (fun e=>a6 (.inl (by simpa using e)))
 have a4:Bst B (w.setCell ⟨H,1,none⟩ (.slice (some ⟨g,0,none⟩) D.length E)) H J (.slice (some ⟨g,0,none⟩) D.length E) D ns F:=by
  refine ⟨A.big,?_,by simpa using A.f0,cell?_setCell_same' _ _ _ (by rw [c1];rfl),by simpa using f1,?_,by simpa using A.f2,dP A.nrow _ _ A.nap,?_,by simpa [Value.ownBlock] using O,A.nap,A.nr,A.once.turn S.blk S.mono,fun y hy=>S.rep (A.rep y (by simp [hy])),fun y hy=>S.post (A.rep y (by simp [hy])) (A.post y (by simp [hy]))⟩
  .have:=A.c0;simp [go_sem,this]
  .have:=A.c2;simp [go_sem,this]
  .refine dP ?_ _ _ (by simpa [Value.ownBlock] using O);have e1:(jJ (D++[x])).take (D.length*2)=jJ D:=(by rw [qN,<- lI D];exact take_left);rw [e1] at I;exact I
 have gg:∀ (W:World) (o1 o2:Obj),W.grownBy ((W.alloc o1).alloc o2) none:=fun _ _ _=>aA gWA gWA;exact ⟨rfl,_,a4.K (gg _ _ _),S.grown (gg _ _ _) hB⟩
def cK (rs:List Mk):List (Tr × Int):=(rs.map fun x=>(x.T,x.n)).reverse
theorem eX (h:List Mk) (x:Mk):cK (h++[x])=(x.T,x.n)::cK h:=by simp [cK]
theorem rT (h):(cK h).length=h.length:=by simp [cK]
def gJ (B:Nat) (w:World) (bb k:Nat) (o:Option (Int × List (Tr × Int))) (e:Ending) (w':World):Prop:=
 Below B w w'/\match o with
  | none=>e=.returned (.bool false)
  | some (r,st)=>e=.returned (.bool true)/\∃ nv rv rs,cK rs=st/\Bst B w' bb nv rv rs (cF rs) r/\(cF rs).length=k
theorem aHM (t:List Int) (k:Nat) (A:k<t.length) (h:10 ∉ t.take k) (D:¬ t[k]?.getD 0=10):10 ∉ t.take (k+1):=by
 rw [dM t k A];simp only [mem_append,mem_cons,not_mem_nil,or_false,not_or];exact ⟨h,fun e=>D e.symm⟩
theorem zJ (v t) (w:World) (hv:RdB w.heap.size w v t) (hn:t.length<=1048576) :
  Calls prog 160 #[v,.int .u8 10] w fun e S=>(∃ i:Int,e=.returned (.int .i64 i)/\decide (0<=i)=t.contains 10)/\w=S:=by
 obtain ⟨a,O,rfl,F⟩:=hv
 go_enter func160,ntmps160
 go_wp2
 go_loopw [8] (fun i wr=>∃ k:Nat,k<=t.length/\i=.int .i64 k/\Hid (10 ∉ t.take k)/\Hid (wr=w)) (fun i _=>t.length - (intOf i).toNat)
 case atStart=>exact ⟨0,Nat.zero_le _,rfl,by unfold Hid;simp,rfl⟩
 case round=>
  obtain ⟨k,hk,rfl,E,M⟩:=hrel;have G:=M.out;clear M;subst G
  by_cases A:k<t.length
  .obtain ⟨b,Y,rfl,hb,J⟩:=F (fun e=>by rw [e] at A;simp at A);have N:=J k A;clear J F
   by_cases h:t[k]?.getD 0=10
   .have H:Hid (t.contains 10=true):=by
     unfold Hid;rw [contains_iff_mem,<- h];simp [A]
    have D:((10:Int)==10)=true:=rfl;rw [h] at N;clear h;go_wp2;go_ret;exact ⟨⟨k,rfl,by rw [H.out];simp⟩,rfl⟩
   .have Z:Hid (10 ∉ t.take (k+1)):=aHM t k A E.out h;have D:((10:Int)==(t[k]?.getD 0))=false:=(by simp;exact fun e=>h e.symm);generalize t[k]?.getD 0=z at N D;clear h;go_wp2
    go_roundw
    case rel=>exact ⟨k+1,by omega,by go_num,Z,by first | rfl | trivial⟩
    case measure=>simp [intOf];omega
  .have I:k=t.length:=by omega
   have H:Hid (t.contains 10=false):=by
    have:=E.out;rw [I,take_length] at this;unfold Hid;simpa using this
   clear F;go_wp2;go_ret;exact ⟨⟨-1,rfl,by rw [H.out];rfl⟩,rfl⟩
theorem nG (v t) (w:World) (h:RdB w.heap.size w v t) (F:t.length<=1048576) :
  Calls prog 143 #[v,.int .u8 10] w fun e H=>e=.returned (.bool (t.contains 10))/\w=H:=by
 have E:=zJ v t w h F;obtain ⟨a,G,rfl,I⟩:=h;clear I
 go_enter func143,ntmps143
 go_wp2_with fail
 refine E.mono ?_;rintro e J ⟨⟨i,rfl,A⟩,rfl⟩;have D:Hid (decide (0<=i)=t.contains 10):=A;clear A;go_wp2;go_ret;exact ⟨by rw [<- D.out];rfl,rfl⟩
theorem Bst.setRoom {B w D H J M N F} (h:Bst B w D H J M N F) (r:Int):Bst B (w.setCell ⟨D,2,none⟩ (.int .i64 r)) D H J M N r:=by
 have E:Below B w (w.setCell ⟨D,2,none⟩ (.int .i64 r)):=(Below.refl B w).setCell h.big _;have S:=h.c0;have Y:=h.c1;have O:=h.c2
 have A:∀ b,b<w.heap.size->¬ Xof D H J b->(w.setCell ⟨D,2,none⟩ (.int .i64 r)).heap[b]?=w.heap[b]?:=by
  intro b hb I;exact heap_setCell_other _ _ _ _ (fun e=>I (.inl (by simpa using e)))
 refine ⟨h.big,by simp [go_sem,S],by simpa using h.f0,by simp [go_sem,Y],by simpa using h.f1,by simp [go_sem,O],by simpa using h.f2,dP h.nrow _ _ h.nap,dP h.row _ _ h.ap,h.ap,h.nap,h.nr,h.once.turn A (fun _ _ h=>h),fun x G=>(h.rep x G).turn E.size A (fun _ _ h=>h) (fun tv t Z=>Rd.below Z E),fun x G=>(h.post x G).turn A (h.rep x G)⟩
def gQ (room:Int) (st:List (Tr × Int)) (p:Pc):Option (Int × List (Tr × Int)):=
 if room<p.t.length then none else if aF p.t<0\/p.t.contains 10=true then none else some (room - p.t.length,(.leaf p,0)::st)
theorem aBG (B w I nv rv F A) (p:Pc) (tv) (hS:Bst B w I nv rv F (cF F) A) (hk:p.k=1) (hv:RdB B w tv p.t) (S:Sl tv p.t.length) (c4:Bys p.t) (hn:p.t.length<=1048576) (d9:0<=A) (f5:A<=100000) (hB:B<=w.heap.size) (d7:0<B) (hT:Tab w) (hl:F.length<=1048576) (d3:(cF F).length<=1048576) :
  Calls prog 106 #[.pointer (some ⟨I,0,none⟩),tv] w fun e w'=>gJ B w I ((cF F).length+1) (gQ A (cK F) p) e w':=by
 have c2:=hS.c2;have f2:=hS.f2;obtain ⟨ta,H,Z,f7,f8⟩:=id S
 by_cases D:A<p.t.length
 .have HF:Hid (gQ A (cK F) p=none):=(by unfold Hid gQ;rw [if_pos D]);subst Z;clear hS hv hT
  go_enter func106,ntmps106
  go_wp2;go_ret;exact ⟨Below.refl _ _,by rw [HF.out];rfl⟩
 .have Y:Below B w (w.setCell ⟨I,2,none⟩ (.int .i64 (A - p.t.length))):=(Below.refl B w).setCell hS.big _;have HS:Hid (Bst B (w.setCell ⟨I,2,none⟩ (.int .i64 (A - p.t.length))) I nv rv F (cF F) (A - p.t.length)):=hS.setRoom _;have M:Hid (Below B w (w.setCell ⟨I,2,none⟩ (.int .i64 (A - p.t.length)))):=Y;have HV:Hid (RdB B (w.setCell ⟨I,2,none⟩ (.int .i64 (A - p.t.length))) tv p.t):=Rd.below hv Y;have hW:=vN tv p.t (w.setCell ⟨I,2,none⟩ (.int .i64 (A - p.t.length))) (HV.out.wide (by simpa using hB)) c4 hn S (hT.below Y d7);have b8:(w.setCell ⟨I,2,none⟩ (.int .i64 (A - p.t.length))).heap.size=w.heap.size:=(by simp);have b1:Hid ((w.setCell ⟨I,2,none⟩ (.int .i64 (A - p.t.length))).heap.size=w.heap.size):=b8;have d8:Hid (Sl tv p.t.length):=S;have a5:=aAy p.t;clear hS hv hT Y S b8
  by_cases b5:aF p.t<0
  .have HF:Hid (gQ A (cK F) p=none):=(by unfold Hid gQ;rw [if_neg D,if_pos (.inl b5)]);generalize aF p.t=O at *;subst Z;clear HS HV a5
   go_enter func106,ntmps106
   go_wp2_with fail
   refine hW.mono ?_;rintro e E ⟨rfl,G⟩;go_wp2;go_ret;exact ⟨M.out.grown G (by simpa using hB) (fun k e=>by cases e),by rw [HF.out];rfl⟩
  .cases J:p.t.contains 10 with
   | true=>
     have HF:Hid (gQ A (cK F) p=none):=(by unfold Hid gQ;rw [if_neg D,if_pos (.inr J)]);generalize aF p.t=O at *;subst Z;clear HS a5
     go_enter func106,ntmps106
     go_wp2_with fail
     refine hW.mono ?_;rintro e E ⟨rfl,G⟩;have hC:=nG _ p.t E ((HV.out.K G).wide (by have:=G.size;rw [b1.out] at this;omega)) hn;rw [J] at hC;clear J HV
     go_wp2_with fail
     refine hC.mono ?_;rintro e w3 ⟨rfl,rfl⟩;go_wp2;go_ret;exact ⟨M.out.grown G (by simpa using hB) (fun k e=>by cases e),by rw [HF.out];rfl⟩
   | false=>
     have HF:Hid (gQ A (cK F) p=some (A - p.t.length,(.leaf p,0)::cK F)):=by
      unfold Hid gQ;rw [if_neg D,if_neg (by rw [J];simp;omega)]
     have d0:Hid (∀ O,aF p.t=O->True):=fun _ _=>trivial;obtain ⟨O,N⟩:∃ O,O=aF p.t:=⟨_,rfl⟩;have d5:Hid (O=aF p.t):=N;rw [<- N] at hW b5;clear N a5 d0;subst Z
     go_enter func106,ntmps106
     go_wp2_with fail
     refine hW.mono ?_;rintro e E ⟨rfl,G⟩;have c6:=G.size;rw [b1.out] at c6;have hC:=nG _ p.t E ((HV.out.K G).wide (by omega)) hn;rw [J] at hC;clear J
     go_wp2_with fail
     refine hC.mono ?_;rintro e w3 ⟨rfl,rfl⟩;have a7:E.grownBy (E.alloc (.cells #[.slice ta p.t.length H,.int .i64 O] 171)) none:=gWA;have b2:=(HS.out.K G).K a7;have f6:=(HS.out.K G).lt;have c9:=ownsRow.lt (HS.out.K G).row;have c7:=ownsRow.lt (HS.out.K G).nrow
     have a6:¬ Xof I nv rv E.heap.size:=by
      intro hx;rcases hx with h | h | h
      .omega
      .have:=c7 _ h;omega
      .have:=c9 _ h;omega
     have a1:Rep (Xof I nv rv) B (E.alloc (.cells #[.slice ta p.t.length H,.int .i64 O] 171)) (.iface 169 (.pointer (some ⟨E.heap.size,0,none⟩))) (.leaf p):=by
      simp only [Rep];exact .inr (.inr (.inr (.inr (.inr ⟨hk,E.heap.size,.slice ta p.t.length H,rfl,a6,by simp,by rw [<- d5.out];exact heap_alloc_new _ _,(HV.out.K G).K a7,d8.out⟩))))
     have b7:=(HS.out.K G).once.new 169 E.heap.size (Nat.le_refl _);have b6:=kQ B _ I nv rv F (cF F) (A - p.t.length) ⟨.iface 169 (.pointer (some ⟨E.heap.size,0,none⟩)),.leaf p,0,[.iface 169 (.pointer (some ⟨E.heap.size,0,none⟩))]⟩ b2 a1 rfl (fun t b e=>by cases e;exact ⟨⟨a6,_,_,heap_alloc_new _ _⟩,b7⟩) (by simp;omega) hl d3;have a2:Hid (Below B w (E.alloc (.cells #[.slice ta p.t.length H,.int .i64 O] 171))):=(M.out.grown G (by simpa using hB) (fun k e=>by cases e)).alloc (by omega) _;clear HS HV b2 a1 a7 G hC hW b7 a6
     go_wp2_with fail
     refine b6.mono ?_;rintro e w4 ⟨rfl,d6,d1,d2,b4⟩;go_wp2;go_ret;refine ⟨a2.out.trans b4.bel,?_⟩;rw [HF.out];refine ⟨rfl,d6,d1,F++[⟨.iface 169 (.pointer (some ⟨E.heap.size,0,none⟩)),.leaf p,0,[.iface 169 (.pointer (some ⟨E.heap.size,0,none⟩))]⟩],eX _ _,?_,?_⟩
     .rw [cX,cY];exact d2
     .rw [cX,cY];simp
def mB (room:Int) (st:List (Tr × Int)) (p:Pc):Option (Int × List (Tr × Int)):=
 match st with | (y,ny)::(x,nx)::r=>some (room,(.bin p x y,max nx ny)::r) | _=>none
def fF (room:Int) (st:List (Tr × Int)) (p:Pc):Option (Int × List (Tr × Int)):=
 match st with | (x,nx)::r=>if p.n<0\/4000 - nx<p.n then none else some (room,(.un p x,nx+p.n)::r) | _=>none
theorem aMY (D:List Mk) (h:¬ D.length<2):∃ (r:List Mk) (x y:Mk),D=r++[x]++[y]:=by
 obtain ⟨A,y,E⟩:∃ A y,D=A++[y]:=⟨D.dropLast,D.getLast (by intro e;rw [e] at h;simp at h),(dropLast_concat_getLast _).symm⟩;have F:A≠[]:=(by intro e;rw [E,e] at h;simp at h);obtain ⟨r,x,G⟩:∃ r x,A=r++[x]:=⟨A.dropLast,A.getLast F,(dropLast_concat_getLast _).symm⟩;exact ⟨r,x,y,by rw [E,G]⟩
theorem aNl (A:List Mk) (h:¬ A.length<1):∃ (r:List Mk) (x:Mk),A=r++[x]:=
 ⟨A.dropLast,A.getLast (by intro e;rw [e] at h;simp at h),(dropLast_concat_getLast _).symm⟩
theorem aDI {B w D E F G I A} (h:Bst B w D E F G I A) (b:Nat) (J:w.heap.size<=b):¬ Xof D E F b:=by
 intro H;rcases H with e | e | e
 .have:=h.lt;omega
 .have:=ownsRow.lt h.nrow _ e;omega
 .have:=ownsRow.lt h.row _ e;omega
theorem aKK {B} {X:Nat->Prop} {w} {p:Pc} {D A x y} (M:Rep X B w D x) (I:Rep X B w A y) (J:¬ X w.heap.size) (h t:TypeId) (H:(p.k=6/\h=180)\/(p.k=9/\h=184)) :
  Rep X B (w.alloc (.cells #[D,A] t)) (.iface h (.pointer (some ⟨w.heap.size,0,none⟩))) (.bin p x y):=by
 have G:w.grownBy (w.alloc (.cells #[D,A] t)) none:=gWA;simp only [Rep];refine ⟨w.heap.size,D,A,J,by simp,by simp [go_sem],by simp [go_sem],M.K G,I.K G,?_⟩;rcases H with ⟨F,E⟩ | ⟨F,E⟩
 .exact .inl ⟨F,by rw [E]⟩
 .exact .inr ⟨F,by rw [E]⟩
theorem aK9 {B} {X:Nat->Prop} {w} {p:Pc} {h x} (F:Rep X B w h x) (E:¬ X w.heap.size) (t:TypeId) (A:p.k=8) :
  Rep X B (w.alloc (.cells #[h] t)) (.iface 177 (.pointer (some ⟨w.heap.size,0,none⟩))) (.un p x):=by
 have D:w.grownBy (w.alloc (.cells #[h] t)) none:=gWA;simp only [Rep];exact ⟨w.heap.size,h,E,by simp,by simp [go_sem],F.K D,.inl ⟨A,rfl⟩⟩
theorem aK6 {B} {X:Nat->Prop} {w} {p:Pc} {h} {nv:Value} {x} (F:Rep X B w h x) (E:¬ X w.heap.size) (t:TypeId) (A:p.k=7) :
  Rep X B (w.alloc (.cells #[h,nv] t)) (.iface 172 (.pointer (some ⟨w.heap.size,0,none⟩))) (.un p x):=by
 have D:w.grownBy (w.alloc (.cells #[h,nv] t)) none:=gWA;simp only [Rep];exact ⟨w.heap.size,h,E,by simp,by simp [go_sem],F.K D,.inr ⟨A,rfl⟩⟩
theorem aJl {X:Nat->Prop} {B w} {p:Pc} {D A x y E F} (I:Rep X B w D x) (J:Rep X B w A y) (M:cU w D x E) (H:cU w A y F) (h t:TypeId) :
  cU (w.alloc (.cells #[D,A] t)) (.iface h (.pointer (some ⟨w.heap.size,0,none⟩))) (.bin p x y) (E++F++[.iface h (.pointer (some ⟨w.heap.size,0,none⟩))]):=by
 have G:w.grownBy (w.alloc (.cells #[D,A] t)) none:=gWA;simp only [cU];exact ⟨h,w.heap.size,D,A,E,F,rfl,by simp [go_sem],by simp [go_sem],M.K I G,H.K J G,rfl⟩
theorem aJm {X:Nat->Prop} {B w} {p:Pc} {A x D} (G:Rep X B w A x) (H:cU w A x D) (h t:TypeId) (E:p.k≠7) :
  cU (w.alloc (.cells #[A] t)) (.iface h (.pointer (some ⟨w.heap.size,0,none⟩))) (.un p x) (D++[.iface h (.pointer (some ⟨w.heap.size,0,none⟩))]):=by
 have F:w.grownBy (w.alloc (.cells #[A] t)) none:=gWA;simp only [cU];exact ⟨h,w.heap.size,A,D,rfl,by simp [go_sem],fun e=>absurd e E,H.K G F,rfl⟩
theorem aJE {X:Nat->Prop} {B w} {p:Pc} {A x D} (F:Rep X B w A x) (G:cU w A x D) (h t:TypeId) :
  cU (w.alloc (.cells #[A,.int .i64 p.n] t)) (.iface h (.pointer (some ⟨w.heap.size,0,none⟩))) (.un p x) (D++[.iface h (.pointer (some ⟨w.heap.size,0,none⟩))]):=by
 have E:w.grownBy (w.alloc (.cells #[A,.int .i64 p.n] t)) none:=gWA;simp only [cU];exact ⟨h,w.heap.size,A,D,rfl,by simp [go_sem],fun _=>by simp [go_sem],G.K F E,rfl⟩
theorem wT (B w J I rv E h) (p:Pc) (hS:Bst B w J I rv E (cF E) h) (hk:p.k=6\/p.k=9) (hB:B<=w.heap.size) (hl:E.length<=1048576) (f3:(cF E).length<=1048576) :
  Calls prog 107 #[.pointer (some ⟨J,0,none⟩),.int .i64 p.k] w fun e w'=>gJ B w J ((cF E).length+1) (mB h (cK E) p) e w':=by
 have c1:=hS.c1;obtain ⟨ra,d7,b6,h7,f7⟩:=aZ hS.row
 by_cases h2:E.length<2
 .have HF:Hid (mB h (cK E) p=none):=by
   have:=rT E;unfold Hid mB;rcases hst:cK E with _ | ⟨y,_ | ⟨x,r⟩⟩
   .rfl
   .rfl
   .rw [hst] at this;simp at this;omega
  subst b6;clear hS f7
  go_enter func107,ntmps107
  go_wp2;go_ret;exact ⟨Below.refl _ _,by rw [HF.out];rfl⟩
 .obtain ⟨r,X,Y,O⟩:=aMY E h2;have d0:r.length<=1048576:=by rw [O] at hl;simp at hl;omega
  have HF:Hid (mB h (cK E) p=some (h,(.bin p X.T Y.T,max X.n Y.n)::cK r)):=by
   unfold Hid;rw [O,eX,eX];rfl
  have g3:Hid (cF E=cF r++X.l++Y.l):=(by unfold Hid;rw [O,cX,cX,cY,cY]);have G:Bst B w J I rv (r++[X]++[Y]) (cF E) h:=(by have:=hS;rw [O] at this ⊢;exact this);have hY:=G.rep Y (by simp);have hX:=G.rep X (by simp);obtain ⟨ty,uy,d3⟩:=hY.form;obtain ⟨Z,ux,c8⟩:=hX.form;have a3:=aDm B w J I rv (r++[X]) (cF E) h Y G hB (by simp;rw [O] at hl;simp at hl;omega);have HS:Hid (Bst B w J I rv (r++[X]++[Y]) (cF E) h):=G;have HX:Hid (Rep (Xof J I rv) B w X.v X.T):=hX;have HY:Hid (Rep (Xof J I rv) B w Y.v Y.T):=hY;have PX:Hid (cU w X.v X.T X.l):=G.post X (by simp);have PY:Hid (cU w Y.v Y.T Y.l):=G.post Y (by simp);rw [d3] at a3;have i1:=b6;subst b6;clear hS G hX hY O
  go_enter func107,ntmps107
  go_wp2_with fail
  refine a3.mono ?_;rintro e w1 ⟨rfl,a7,b8,c4⟩;have i4:=c4.bel.size;have c3:w1.grownBy (w1.alloc (.cells #[.iface ty uy,.int .i64 Y.n] 210)) none:=gWA;have d2:Hid (Bst B (w1.alloc (.cells #[.iface ty uy,.int .i64 Y.n] 210)) J I a7 (r++[X]) (cF E) h):=b8.K c3;have A:Hid (Fr B J I _ I a7 w (w1.alloc (.cells #[.iface ty uy,.int .i64 Y.n] 210))):=c4.grown c3 hB;have M:=aDm B _ J I a7 r (cF E) h X d2.out (by simp;omega) d0;have a2:=aDI b8 w1.heap.size (Nat.le_refl _);rw [c8] at M;clear a3 b8 c4 c3
  go_wp2_with fail
  refine M.mono ?_;rintro e H ⟨rfl,a0,d1,S⟩;have f4:=S.bel.size;simp only [size_alloc] at f4;have y0:=S.cell (a:=⟨w1.heap.size,0,none⟩) (v:=.iface ty uy) (by simp [go_sem]) a2;have y1:=S.cell (a:=⟨w1.heap.size,1,none⟩) (v:=.int .i64 Y.n) (by simp [go_sem]) a2;have a1:H.grownBy (H.alloc (.cells #[.iface Z ux,.int .i64 X.n] 210)) none:=gWA;have F:Hid (Fr B J I a7 I a0 _ (H.alloc (.cells #[.iface Z ux,.int .i64 X.n] 210))):=S.grown a1 (by simp;omega);have a8:Hid (Bst B (H.alloc (.cells #[.iface Z ux,.int .i64 X.n] 210)) J I a0 r (cF E) h):=d1.K a1;have h1:max X.n Y.n=if X.n<Y.n then Y.n else X.n:=(by omega);have z0:=a1.cell y0 (by simp);have z1:=a1.cell y1 (by simp);have g7:w1.heap.size≠H.heap.size:=(by omega);clear M d1 S a1 d2 y0 y1;have b1:=aDI a8.out (H.heap.size+1) (by simp);have b0:=F.out.rep (A.out.rep HX.out);have a6:=F.out.rep (A.out.rep HY.out);have b5:=F.out.post (A.out.rep HX.out) (A.out.post HX.out PX.out);have c0:=F.out.post (A.out.rep HY.out) (A.out.post HY.out PY.out);have g2:Hid (Fr B J I (Value.slice ra E.length d7) I a0 w (H.alloc (.cells #[.iface Z ux,.int .i64 X.n] 210))):=A.out.trans F.out;have h8:B<=H.heap.size+1:=(by omega);rw [c8] at b0 b5;rw [d3] at a6 c0
  have d4:Hid (∀ (D t:TypeId) (N:Int),((p.k=6/\D=180)\/(p.k=9/\D=184))->max X.n Y.n=N->
    Calls prog 105 #[.pointer (some ⟨J,0,none⟩),.iface D (.pointer (some ⟨H.heap.size+1,0,none⟩)),.int .i64 N] ((H.alloc (.cells #[.iface Z ux,.int .i64 X.n] 210)).alloc (.cells #[.iface Z ux,.iface ty uy] t))
     fun e w'=>e=.returned (.tuple #[])/\Below B w w'/\∃ I rv a9,cK a9=(.bin p X.T Y.T,max X.n Y.n)::cK r/\Bst B w' J I rv a9 (cF a9) h/\(cF a9).length=(cF E).length+1):=by
   intro D t N hk hN;have b2:¬ Xof J I a0 (H.alloc (.cells #[.iface Z ux,.int .i64 X.n] 210)).heap.size:=(by simpa using b1);have d6:=aKK b0 a6 b2 D t hk;have gA:(H.alloc (.cells #[.iface Z ux,.int .i64 X.n] 210)).grownBy ((H.alloc (.cells #[.iface Z ux,.int .i64 X.n] 210)).alloc (.cells #[.iface Z ux,.iface ty uy] t)) none:=gWA;have b7:=aJl (p:=p) b0 a6 b5 c0 D t;have f6:=a8.out.once.new D (H.alloc (.cells #[.iface Z ux,.int .i64 X.n] 210)).heap.size (Nat.le_refl _);have:=kQ B _ J I a0 r (cF E) h ⟨_,.bin p X.T Y.T,N,_⟩ (a8.out.K gA) d6 b7 (fun t b e=>by cases e;exact ⟨⟨b2,_,_,heap_alloc_new _ _⟩,f6⟩) (by simp;omega) d0 f3;simp only [size_alloc] at this;refine this.mono ?_;rintro e w' ⟨rfl,g0,f8,G,f2⟩
   have c9:cF (r++[(⟨.iface D (.pointer (some ⟨H.heap.size+1,0,none⟩)),.bin p X.T Y.T,N,X.l++Y.l++[.iface D (.pointer (some ⟨H.heap.size+1,0,none⟩))]⟩:Mk)])=cF E++[.iface D (.pointer (some ⟨H.heap.size+1,0,none⟩))]:=by
    rw [cX,cY,g3.out];simp
   exact ⟨rfl,(g2.out.grown gA hB).bel.trans f2.bel,g0,f8,r++[(⟨.iface D (.pointer (some ⟨H.heap.size+1,0,none⟩)),.bin p X.T Y.T,N,X.l++Y.l++[.iface D (.pointer (some ⟨H.heap.size+1,0,none⟩))]⟩:Mk)],by rw [eX,hN],by rw [c9];exact G,by rw [c9];simp⟩
  clear b0 a6 b5 c0 a8 A F HX HY PX PY a2 b1;rcases hk with c2 | b9
  .have e9:(p.k==9)=false:=(by rw [c2];rfl);have HK:Hid (p.k=6):=c2;clear c2
   go_wp2_with fail
   all_goals
    refine (d4.out _ _ _ (.inl ⟨HK.out,rfl⟩) (by omega)).mono ?_;rintro e w4 ⟨rfl,a5,h4⟩;go_wp2;go_ret;refine ⟨a5,?_⟩;rw [HF.out];exact ⟨rfl,h4⟩
  .have e9:(p.k==9)=true:=(by rw [b9];rfl);have HK:Hid (p.k=9):=b9;clear b9
   go_wp2_with fail
   all_goals
    refine (d4.out _ _ _ (.inr ⟨HK.out,rfl⟩) (by omega)).mono ?_;rintro e w4 ⟨rfl,a5,h4⟩;go_wp2;go_ret;refine ⟨a5,?_⟩;rw [HF.out];exact ⟨rfl,h4⟩
end Go.Proofs.YtckcaefnokeodaaGreatDoor
