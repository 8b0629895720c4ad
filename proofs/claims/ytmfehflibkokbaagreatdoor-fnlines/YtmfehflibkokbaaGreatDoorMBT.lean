import Derived.Test.YtmfehflibkokbaaGreatDoorMBS
set_option maxHeartbeats 16000000
set_option maxRecDepth 100000
namespace Go.Proofs.YtmfehflibkokbaaGreatDoor
open Go.Proofs.Tryz
open Go.RowKit
def uE (doc:List Pc):Option (List Int):=if eX doc=true then (match bd doc [] with | some [T]=>aM T [] | _=>none) else none
def kG (doc:List Pc):List Int:=(uE doc).getD []
def sI (doc:List Pc):Bool:=(uE doc).isSome
theorem aES (doc:List Pc):(kG doc).length<=140000:=by
 unfold kG;cases h:uE doc with
 | none=>simp
 | some o=>
   unfold uE at h
   split at h
   ·rename_i hs
    split at h
    ·rename_i T hT
     have:=lY T [] o h;have:=aCc doc hs T hT;simp at *;omega
    ·cases h
   ·cases h
def uS:Tr->List Int
 | .leaf p=>if p.k=1 then p.t else if p.k=2 then [32] else []
 | _=>[]
def mC:Tr->Bool
 | .leaf p=>!(p.k==0||p.k==3||p.k==1||p.k==2)
 | _=>false
def txs:List Tr->List Int
 | []=>[]
 | x::r=>uS x++txs r
theorem aCY:∀ (r:List Tr) (x:Tr),txs (r++[x])=txs r++uS x
 | [],x=>by simp [txs]
 | y::r,x=>by simp only [List.cons_append,txs,aCY r x,List.append_assoc]
theorem mM:∀ (r s:List Tr) (o:List Int),(∀ x∈r,mC x=false)->kA (r++s) o=kA s (o++txs r)
 | [],s,o,_=>by simp [txs]
 | .leaf p::r,s,o,h=>by
   have J:=h (.leaf p) (by simp);simp [mC] at J;simp only [List.cons_append,kA,txs,uS]
   by_cases E:p.k=0\/p.k=3
   ·rw [if_pos E,if_neg (by omega),if_neg (by omega),mM r s o (fun x A=>h x (by simp [A]))];simp
   ·by_cases D:p.k=1
    ·rw [if_neg E,if_pos D,if_pos D,mM r s _ (fun x A=>h x (by simp [A]))];simp
    ·have G:p.k=2:=(by omega);rw [if_neg E,if_neg D,if_pos G,if_neg D,if_pos G,mM r s _ (fun x A=>h x (by simp [A]))];simp
 | .un p x::r,s,o,h=>by
   simp only [List.cons_append,kA,txs,uS];rw [mM r s o (fun x A=>h x (by simp [A]))];simp
 | .bin p x y::r,s,o,h=>by
   simp only [List.cons_append,kA,txs,uS];rw [mM r s o (fun x A=>h x (by simp [A]))];simp
theorem aBd (T:Tr):kA (jX true T) []=aM T []:=by
 have:=tV T [] [];simp only [List.append_nil] at this;rw [this];cases aM T []<;>rfl
theorem aGg {T:Tr} {ys:List Tr} (y:ys=jX true T) (h:∀ x∈ys,mC x=false):aM T []=some (txs ys):=by
 rw [<- aBd T,<- y];have:=mM ys [] [] h;simpa [kA] using this
theorem aGF {T:Tr} {q:List Tr} {x:Tr} (A:q++[x] <+: jX true T) (h:∀ x∈q,mC x=false) (y:mC x=true):aM T []=none:=by
 obtain ⟨s,D⟩:=A;rw [<- aBd T,<- D,List.append_assoc,mM q _ [] h]
 match x,y with
 | .leaf p,y=>
   simp [mC] at y;simp only [List.cons_append,List.nil_append,kA];rw [if_neg (by omega),if_neg (by omega),if_neg (by omega)]
end Go.Proofs.YtmfehflibkokbaaGreatDoor
namespace Go.Proofs.YtmfehflibkokbaaGreatDoor
open Go.Proofs.Tryz
open Go.RowKit Go.Shelf
attribute [local go_sem] Oper.semAt_some
attribute [-go_sem] Builtin.append_
theorem aGf {X:Nat->Prop} {B:Nat} {w:World} {v:Value} {T:Tr} (h:Rep X B w v T) :
  (∃ t u,v=.iface t u/\aKy t/\mC T=false/\uS T=[])\/(v=.iface 73 (.agg #[])/\mC T=false/\uS T=[32])\/(v=.iface 179 (.agg #[])/\mC T=false/\uS T=[])\/(v=.iface 74 (.agg #[])/\mC T=true)\/
  (v=.iface 75 (.agg #[])/\mC T=true)\/(∃ b tv p,T=.leaf p/\p.k=1/\v=.iface 67 (.pointer (some ⟨b,0,none⟩))/\¬ X b/\w.cell? ⟨b,0,none⟩=some tv/\RdB B w tv p.t/\Sl tv p.t.length):=by
 cases T with
 | leaf p=>
   simp only [Rep] at h;rcases h with h | h | h | h | h | ⟨J,b,tv,O,E,G,D,A,U⟩
   ·exact .inl ⟨_,_,h.2,.inl rfl,by simp [mC,h.1],by simp [uS,h.1]⟩
   ·exact .inr (.inl ⟨h.2,by simp [mC,h.1],by simp [uS,h.1]⟩)
   ·exact .inr (.inr (.inl ⟨h.2,by simp [mC,h.1],by simp [uS,h.1]⟩))
   ·exact .inr (.inr (.inr (.inl ⟨h.2,by simp [mC,h.1]⟩)))
   ·exact .inr (.inr (.inr (.inr (.inl ⟨h.2,by simp [mC,h.1]⟩))))
   ·exact .inr (.inr (.inr (.inr (.inr ⟨b,tv,p,rfl,J,O,E,by simp [World.cell?,D],A,U⟩))))
 | un p x=>
   simp only [Rep] at h;obtain ⟨b,u,E,G,D,N,A | A⟩:=h
   ·exact .inl ⟨_,_,A.2,.inr (.inl rfl),rfl,rfl⟩
   ·exact .inl ⟨_,_,A.2,.inr (.inr (.inl rfl)),rfl,rfl⟩
 | bin p x y=>
   simp only [Rep] at h;obtain ⟨b,u,Y,E,G,D,S,N,M,A | A⟩:=h
   ·exact .inl ⟨_,_,A.2,.inr (.inr (.inr (.inl rfl))),rfl,rfl⟩
   ·exact .inl ⟨_,_,A.2,.inr (.inr (.inr (.inr rfl))),rfl,rfl⟩
theorem KpX.app {n₀ tb:Nat} {W w':World} {tv G:Value} (A:W.cell? ⟨tb,0,none⟩=some tv) (J:W.grownBy w' tv.ownBlock) (X:n₀<=tb) (Z:n₀<=W.heap.size) (y:∀ g,tv.ownBlock=some g->n₀<=g) (D:tv.ownBlock≠some tb)
  (M:G.ownBlock=tv.ownBlock\/∃ g,G.ownBlock=some g/\W.heap.size<=g/\g<w'.heap.size):KpX n₀ tb W (w'.setCell ⟨tb,0,none⟩ G):=by
 have Y:=World.block_lt_of_cell? W _ A;have N:w'.cell? ⟨tb,0,none⟩=some tv:=J.cell A (fun e=>D e.symm);refine ⟨((Below.refl n₀ W).grown J Z y).setCell (p:=⟨tb,0,none⟩) X _,fun b o S _ U=>?_,fun b hb=>?_⟩
 ·rw [heap_setCell_other _ _ _ _ (fun e=>U (.inl (by simpa using e)))];exact (J.block b (Array.getElem?_eq_some_iff.1 S).1 (fun e=>U (.inr ⟨tv,A,e.symm⟩))).trans S
 ·rcases hb with h | ⟨v,h,E⟩
  ·exact .inl (.inl h)
  ·rw [World.cell?_setCell_same' _ _ _ (by rw [N];rfl)] at h;cases h;rcases M with O | ⟨g,O,h3,h4⟩
   ·exact .inl (.inr ⟨tv,A,by rw [<- O];exact E⟩)
   ·rw [O] at E;cases E;exact .inr (by simp;omega)
theorem aF9 {W w':World} {tv:Value} {J n:Nat} {xs:List Value} (h:W.ownsRow J 5 1 tv n xs) (M:W.grownBy w' tv.ownBlock) (a:Addr) (G:Value):KeepsOthers W (w'.setCell a G):=by
 refine (KeepsOthers.of_grownBy M (fun j o e A=>?_)).trans (KeepsOthers.setCell _ _ _);rcases h.2 with ⟨E,_⟩ | ⟨O,D,N,hv,_,y,_⟩
 ·rw [E] at e;cases e
 ·rw [hv] at e;cases e;rw [y] at A;cases A;rfl
structure Txt (w1 w3:World) (tb n:Nat) (o:List Int) (W:World):Prop where
 cell:∃ tv,W.cell? ⟨tb,0,none⟩=some tv/\OwB w3.heap.size W tv o
 froz:W.frozen? ⟨tb,0,none⟩=false
 len:o.length<=140001*n
 bel:Below w1.heap.size w1 W
theorem Txt.step {N S A B:World} {E n:Nat} {o:List Int} {D:Option Nat} (h:Txt N S E n o A) (J:A.grownBy B D) (y:∀ g,D=some g->N.heap.size<=g/\¬ Xt E A g):Txt N S E n o B:=by
 obtain ⟨⟨tv,M,Y⟩,X,U,O⟩:=h;have G:some E≠D:=fun e=>(y E e.symm).2 (.inl rfl);refine ⟨⟨tv,J.cell M G,World.ownsRow.kept Y J ?_⟩,(World.frozen?_of_block (J.block E (World.block_lt_of_cell? A _ M) G)).trans X,U,O.grown J O.size (fun k e=>(y k e).1)⟩;cases hv:tv.ownBlock with
 | none=>exact .inl rfl
 | some g=>exact .inr (fun e=>(y g e.symm).2 (.inr ⟨tv,M,hv⟩))
theorem Txt.notCells {U Y W:World} {M n:Nat} {o:List Int} (h:Txt U Y M n o W) {l:Nat} {G:Obj} (D:W.heap[l]?=some G) (O:G.isCells=false):¬ Xt M W l:=by
 obtain ⟨⟨tv,y,hO⟩,_,_,_⟩:=h;intro Z;rcases Z with e | ⟨v,J,A⟩
 ·subst e;unfold World.cell? at y;simp only [D] at y;cases G<;>simp_all [Obj.isCells]
 ·rw [y] at J;cases J;rcases hO.2 with ⟨S,_⟩ | ⟨g2,N,X,hv,_,E,_⟩
  ·rw [S] at A;cases A
  ·rw [hv] at A;cases A;rw [E] at D;cases D;cases O
theorem Txt.high {G E W:World} {A n:Nat} {o:List Int} (h:Txt G E A n o W) {b:Nat} (M:Xt A W b):b<W.heap.size/\(b=A\/E.heap.size<=b):=by
 obtain ⟨⟨tv,y,N⟩,_,_,_⟩:=h;rcases M with e | ⟨v,D,J⟩
 ·subst e;exact ⟨World.block_lt_of_cell? W _ y,.inl rfl⟩
 ·rw [y] at D;cases D;have:=World.ownsRow.lt N b J;exact ⟨this.2,.inr this.1⟩
theorem Txt.app {N X W w':World} {y n:Nat} {o t:List Int} {tv A:Value} (h:Txt N X y n o W) (S:W.cell? ⟨y,0,none⟩=some tv) (ht:t.length<=140000) (a4:N.heap.size<=y/\y<X.heap.size)
  (J:OwB X.heap.size w' A (o++t)) (U:W.grownBy w' tv.ownBlock) (Z:A.ownBlock=tv.ownBlock\/∃ g,A.ownBlock=some g/\W.heap.size<=g) :
  Txt N X y (n+1) (o++t) (w'.setCell ⟨y,0,none⟩ A)/\KpX N.heap.size y W (w'.setCell ⟨y,0,none⟩ A)/\KeepsOthers W (w'.setCell ⟨y,0,none⟩ A):=by
 obtain ⟨⟨b0,G,hO⟩,hf,hl,hb⟩:=h;rw [S] at G;cases G;have O:=World.ownsRow.lt hO;have D:=World.ownsRow.lt J;have E:tv.ownBlock≠some y:=fun e=>by have:=O y e;omega
 have Y:A.ownBlock≠some y:=fun e=>by have:=D y e;omega
 have a5:w'.cell? ⟨y,0,none⟩=some tv:=U.cell S (fun e=>E e.symm)
 have M:A.ownBlock=tv.ownBlock\/∃ g,A.ownBlock=some g/\W.heap.size<=g/\g<w'.heap.size:=by
  rcases Z with h | ⟨g,h1,h2⟩
  ·exact .inl h
  ·exact .inr ⟨g,h1,h2,(D g h1).2⟩
 have hk:=KpX.app (n₀:=N.heap.size) S U a4.1 hb.size (fun g e=>by have:=O g e;omega) E M;refine ⟨⟨⟨A,World.cell?_setCell_same' _ _ _ (by rw [a5];rfl),cP J _ _ Y⟩,?_,by simp;omega,hb.trans hk.bel⟩,hk,aF9 hO U _ _⟩;rw [World.frozen?_setCell];exact (World.frozen?_of_block (U.block y (World.block_lt_of_cell? W _ S) (fun e=>E e.symm))).trans hf
structure Res (r:Nat) (W:World):Prop where
 a:W.cell? ⟨r,0,none⟩=some (.slice none 0 0)
 fa:W.frozen? ⟨r,0,none⟩=false
 b:W.cell? ⟨r+1,0,none⟩=some (.bool false)
 fb:W.frozen? ⟨r+1,0,none⟩=false
theorem Res.K {r:Nat} {A B:World} (h:Res r A) (y:B.heap[r]?=A.heap[r]?) (D:B.heap[r+1]?=A.heap[r+1]?):Res r B:=
 ⟨(World.cell?_of_block (a:=⟨r,0,none⟩) y).trans h.a,(World.frozen?_of_block (a:=⟨r,0,none⟩) y).trans h.fa,(World.cell?_of_block (a:=⟨r+1,0,none⟩) D).trans h.b,(World.frozen?_of_block (a:=⟨r+1,0,none⟩) D).trans h.fb⟩
theorem Res.lt {r:Nat} {W:World} (h:Res r W):r+1<W.heap.size:=World.block_lt_of_cell? W _ h.b
theorem aDU (n:Nat) (hn:3<=n) (v:Value) (doc:List Pc) (w:World) (hv:RdP w.heap.size w v doc) (hd:Doc doc) (hT:Tab w) :
  CallsIn Fence.wide n prog 9 #[v] w fun e w'=>∃ v',e=.returned (.tuple #[v',.bool (sI doc)])/\OwB w.heap.size w' v' (kG doc)/\Below w.heap.size w w':=by
 have h1:1<=n:=(by omega);have o7:∀ (t:TypeId) (u:Value) (w:World),(binOp .eql 62 (.iface t u) .nilIface).run prog w=.ok (.bool false) w:=fun _ _ _=>rfl;have p6:∀ (w:World),(binOp .eql 62 .nilIface .nilIface).run prog w=.ok (.bool true) w:=fun _=>rfl;obtain ⟨a,cap,l8,_⟩:=id hv;obtain ⟨wa,d3⟩:∃ wa,(w.alloc (.cells #[.slice none 0 0] 22)).alloc (.cells #[.bool false] 4)=wa:=⟨_,rfl⟩;have c4:w.grownBy wa none:=(by rw [<- d3];exact aA gWA gWA);have p4:wa.heap.size=w.heap.size+2:=(by rw [<- d3];simp);have j2:Res w.heap.size wa:=(by rw [<- d3];exact ⟨by simp [go_sem],by simp [go_sem],by simp [go_sem],by simp [go_sem]⟩);have h5:=aEZ v doc wa ((hv.K c4).wide c4.size) hd (hT.K c4);subst l8;clear hv hT;refine callsIn_of_wp_marks func9 rfl trivial ?_ rfl;simp only [ntmps9,List.size_toArray,List.length_cons,List.length_nil,Nat.reduceAdd,Nat.reduceSub,Array.replicate_succ,Array.replicate_zero,List.push_toArray,List.append_toArray,List.nil_append,List.cons_append]
 gi_wp2_with fail
 refine ⟨trivial,(callsIn_wide.2 h5).mono ?_⟩;intro e G h6;obtain ⟨b9,h2⟩:=aD5 h6;have c0:Res w.heap.size G:=j2.K (b9.block _ (by omega)) (b9.block _ (by omega));have g5:Below w.heap.size w G:=(aT c4).trans (b9.mono (by omega));have p9:w.heap.size+2<=G.heap.size:=(by have:=b9.size;omega);rcases h2 with ⟨hs,T,u,h3,j8,rfl,hr⟩ | ⟨hs,rfl⟩
 ·obtain ⟨tr,ur,g7⟩:=hr.form;subst g7;clear h6 h5
  gi_wp2_with fail
  refine ⟨trivial,(aG8 _ _ _ _ _).mono ?_⟩;rintro e w2 ⟨rfl,rfl⟩
  gi_wp2_with fail
  have HF:Hid (uE doc=aM T []):=(by unfold Hid uE;rw [if_pos hs,h3]);have d9:=aCc doc hs T h3;obtain ⟨N,Y⟩:∃ N:Nd G.heap.size G,N.1=(.iface tr ur,T):=⟨⟨(.iface tr ur,T),(hr.base (by have:=b9.size;exact this)).turn (Nat.le_refl _) (fun _ _ _=>rfl) (fun b hb h=>by omega) (fun _ _ h=>h),d9⟩,rfl⟩;obtain ⟨w3,b0⟩:∃ w3,((G.alloc (.cells #[.slice none 0 0] 22)).alloc (.cells #[.iface tr ur] 62)).alloc (.cells #[.bool true] 4)=w3:=⟨_,rfl⟩;have n8:w3.heap.size=G.heap.size+3:=(by rw [<- b0];simp);have g8:Below G.heap.size G w3:=(by rw [<- b0];exact (((Below.refl _ G).alloc (Nat.le_refl _) _).alloc (by simp) _).alloc (by simp;omega) _);have j7:w3.cell? ⟨G.heap.size,0,none⟩=some (.slice none 0 0)/\w3.frozen? ⟨G.heap.size,0,none⟩=false:=by rw [<- b0];constructor<;>simp [go_sem]
  have m1:Boxed w3 (G.heap.size+1) 62 (.iface tr ur):=by
   rw [<- b0];have:=Boxed.new (G.alloc (.cells #[.slice none 0 0] 22)) 62 (.iface tr ur);rw [World.size_alloc] at this;exact this.kept (World.grownBy_alloc _ _ none) (by simp)
  have l3:Boxed w3 (G.heap.size+1+1) 4 (.bool true):=by
   rw [<- b0];have:=Boxed.new ((G.alloc (.cells #[.slice none 0 0] 22)).alloc (.cells #[.iface tr ur] 62)) 4 (.bool true);simpa using this
  rw [b0];have f8:Res w.heap.size w3:=c0.K (g8.block _ (by omega)) (g8.block _ (by omega));clear hr h3 j8 c4 hs b9 hd b0 d3 j2 c0
  refine aDg rfl h1 (gf:=59) (lb:=#[.pointer (some ⟨G.heap.size+1,0,none⟩),.pointer (some ⟨G.heap.size+1+1,0,none⟩)]) rfl trivial (enters_of func59 (by kernel_rfl) rfl)
   (fun x:Nd G.heap.size G=>#[x.1.1]) (fun _=>rfl)
   (fun E W=>(∀ x∈E,mC x.1.2=false)/\Txt G w3 G.heap.size E.length (txs (aN E)) W/\Res w.heap.size W/\w3.heap.size<=W.heap.size)
   (fun E W=>(∃ q x,E=q++[x]/\(∀ y∈q,mC y.1.2=false)/\mC x.1.2=true)/\Res w.heap.size W/\Below w.heap.size G W)
   (KpX G.heap.size G.heap.size) (fun ys=>aN ys=jX true N.1.2) (fun E=>aN E <+: jX true N.1.2) (jX true N.1.2).length
   ?Ik ?Ixk ?Kk (fun _ _ _ h k=>h.trans k) ?h0
   (fun x=>{ tmps:=#[.slice a doc.length cap,undef,.pointer (some ⟨w.heap.size,0,none⟩),.pointer (some ⟨w.heap.size+1,0,none⟩),.iface tr ur,.pointer (some ⟨G.heap.size,0,none⟩),x.1.1,undef,undef,undef,.slice a doc.length cap,.iface tr ur,.iface tr ur,.bool false,.iface tr ur,.func (.func 59) #[] #[.pointer (some ⟨G.heap.size+1,0,none⟩),.pointer (some ⟨G.heap.size+1+1,0,none⟩)],x.1.1,undef,undef,undef,undef,undef,undef,undef,undef,undef,undef,undef,undef,undef,undef,undef,undef,undef,undef,undef,undef,undef,undef,undef,undef],defers:=[] })
   ?assign ?body ?seq ?done ?stop
  case Ik=>
   rintro s W l o o' hl ho hc ⟨g1,S,U,g4⟩;exact ⟨g1,S.step (grownBy_putObj' W l o') (fun g e=>by cases e;exact ⟨by omega,S.notCells ho hc⟩),U.K (World.putObj_heap_other (by omega)) (World.putObj_heap_other (by omega)),by simpa using g4⟩
  case Ixk=>
   rintro s W l o o' hl ho hc ⟨g1,U,g6⟩;exact ⟨g1,U.K (World.putObj_heap_other (by omega)) (World.putObj_heap_other (by omega)),g6.trans ⟨rfl,rfl,rfl,by simp,fun k hk=>World.putObj_heap_other (by omega)⟩⟩
  case Kk=>
   intro W l o o' hl ho hc;exact KpX.put o' (by omega) (by omega) ho hc
  case h0=>
   intro o1 o2;have gg:w3.grownBy ((w3.alloc o1).alloc o2) none:=aA gWA gWA;refine ⟨by simp,?_,f8.K (gg.block _ (by have:=f8.lt;omega) (by simp)) (gg.block _ (by have:=f8.lt;omega) (by simp)),by simp;omega⟩;have t0:Txt G w3 G.heap.size 0 [] w3:=⟨⟨_,j7.1,World.ownsRow_nil _ _ _ _⟩,j7.2,by simp,g8⟩;exact t0.step gg (fun g e=>by cases e)
  case assign=>
   intro l x W K hK
   gi_wp2
   exact hK
  case body=>
   rintro l E x W ⟨g1,S,U,g4⟩ d5;have b4:=Rep.below x.2.1 S.bel;have i3:=x.2.2;have ca:=U.a;have cb:=U.b;have fa:=U.fa;have fb:=U.fb
   have a7:mC x.1.2=false->∀ y∈E++[x],mC y.1.2=false:=by
    intro h y hy;rcases List.mem_append.1 hy with h2 | h2
    ·exact g1 y h2
    ·simp at h2;subst h2;exact h
   have a6:txs (aN (E++[x]))=txs (aN E)++uS x.1.2:=(by simp only [aN,List.map_append,List.map_cons,List.map_nil];exact aCY _ _);have d7:(E++[x]).length=E.length+1:=(by simp);rcases aGf b4 with ⟨t,u,M,hq,Z,a4⟩ | ⟨M,Z,a4⟩ | ⟨M,Z,a4⟩ | ⟨M,Z⟩ | ⟨M,Z⟩ | ⟨b,m6,p,d0,j6,M,q8,q1,m7,l7⟩
   ·obtain ⟨f1,f2,f3,f4,f5⟩:=aIZ hq u;have HS:Hid (txs (aN (E++[x]))=txs (aN E)):=(by unfold Hid;rw [a6,a4];simp);rw [M];clear M b4 a6 a4
    gi_wp2
    refine ⟨KeepsOthers.refl _,KpX.refl _ _ _,a7 Z,?_,U,g4⟩;rw [HS.out];exact ⟨S.cell,S.froz,by have:=S.len;simp;omega,S.bel⟩
   ·obtain ⟨f1,f2,f3,f4,f5⟩:=aJM;obtain ⟨i0,hi,j4,i4,j3⟩:=info_parts mF;obtain ⟨tv,hc,hO⟩:=S.cell;have fr:=S.froz;have m2:=S.len
    have n3:E.length<=140000:=by
     have:=vS true [N.1.2];simp only [lK,szs,List.append_nil] at this;rw [Y] at this d5;simp only at this d5;omega
    have gg:W.grownBy ((W.alloc (.cells #[] 73)).alloc (.cells #[.int .u8 32] 5)) none:=aA gWA gWA;obtain ⟨v',w',i8,c5,J,_,c6⟩:=run_append_own_at (P:=prog) ((W.alloc (.cells #[] 73)).alloc (.cells #[.int .u8 32] 5)) w3.heap.size 22 22 5 i0 (.int .u8 0) 1 1 underlying22 hi j4 i4 j3 rfl (by decide) tv _ _ (hO.later gg) ⟨W.heap.size+1,0,none⟩ 1 1 [.int .u8 32] rfl (by have:=cell_one_new (W.alloc (.cells #[] 73)) (.int .u8 32) 5;rw [World.size_alloc] at this;exact this) (by intro u hu;simp at hu;subst hu;rfl) (by unfold maxLen;omega) (by omega) (by simp;omega);have O:W.grownBy w' tv.ownBlock:=⟨J.os.trans gg.os,J.tape.trans gg.tape,J.output.trans gg.output,Nat.le_trans gg.size J.size,fun i hi hn=>(J.block i (Nat.lt_of_lt_of_le hi gg.size) hn).trans (gg.block i hi (by simp))⟩
    have a9:v'.ownBlock=tv.ownBlock\/∃ g,v'.ownBlock=some g/\W.heap.size<=g:=by
     rcases c6 with h | h
     ·exact .inl h
     ·exact .inr ⟨_,h,by simp;omega⟩
    have b1:OwB w3.heap.size w' v' (txs (aN E)++[32]):=(by unfold OwB Ow;simpa using c5);obtain ⟨k1,k2,k3⟩:=S.app hc (t:=[32]) (by simp) ⟨Nat.le_refl _,by omega⟩ b1 O a9;have HT:Hid (Txt G w3 G.heap.size (E.length+1) (txs (aN E)++[32]) (w'.setCell ⟨G.heap.size,0,none⟩ v')):=k1;have HK:Hid (KpX G.heap.size G.heap.size W (w'.setCell ⟨G.heap.size,0,none⟩ v')):=k2;have b3:tv.ownBlock≠some G.heap.size:=fun e=>by have:=World.ownsRow.lt hO G.heap.size e;omega
    have n1:w'.cell? ⟨G.heap.size,0,none⟩=some tv:=O.cell hc (fun e=>b3 e.symm);have l5:w'.frozen? ⟨G.heap.size,0,none⟩=false:=(World.frozen?_of_block (O.block G.heap.size (World.block_lt_of_cell? W _ hc) (fun e=>b3 e.symm))).trans fr
    have HR:Hid (Res w.heap.size (w'.setCell ⟨G.heap.size,0,none⟩ v')):=by
     have i6:=U.lt;refine U.K ?_ ?_
     ·rw [heap_setCell_other _ _ _ _ (by simp;omega)];exact O.block _ (by omega) (fun e=>by have:=World.ownsRow.lt hO _ e.symm;omega)
     ·rw [heap_setCell_other _ _ _ _ (by simp;omega)];exact O.block _ (by omega) (fun e=>by have:=World.ownsRow.lt hO _ e.symm;omega)
    have HS:Hid (txs (aN (E++[x]))=txs (aN E)++[32]):=(by unfold Hid;rw [a6,a4]);have m3:=O.size;obtain ⟨ta,X,c7,_,_⟩:=aU hO;obtain ⟨va,j1,b8,_,_⟩:=aU b1;rw [List.length_append] at b8;simp only [List.length_cons,List.length_nil,Nat.zero_add] at b8;have q9:(W.alloc (.cells #[] 73)).cell? ⟨G.heap.size,0,none⟩=some tv:=dD _ hc;have HA:=a7 Z;rw [M];clear M b4 a6 a4 hO b1 c5 a7 b3 J c6 a9 O k1 k2 S U gg hi j4 i4 j3;subst c7 b8
    gi_wp2
    all_goals exact ⟨k3,HK.out,HA,by rw [d7,HS.out];exact HT.out,HR.out,by simp;omega⟩
   ·obtain ⟨f1,f2,f3,f4,f5⟩:=aJs;have HS:Hid (txs (aN (E++[x]))=txs (aN E)):=(by unfold Hid;rw [a6,a4];simp);rw [M];clear M b4 a6 a4
    gi_wp2
    refine ⟨KeepsOthers.refl _,KpX.refl _ _ _,a7 Z,?_,U,g4⟩;rw [HS.out];exact ⟨S.cell,S.froz,by have:=S.len;simp;omega,S.bel⟩
   ·obtain ⟨f1,f2,f3,f4,f5⟩:=aJD;rw [M];clear M b4 a6
    gi_wp2
    refine ⟨(KeepsOthers.setCell _ _ _).trans (KeepsOthers.setCell _ _ _),⟨E,x,rfl,g1,Z⟩,⟨by simp [go_sem,ca],by simpa using fa,by simp [go_sem,cb],by simpa using fb⟩,?_⟩;exact (((S.bel).mono (show w.heap.size<=G.heap.size by omega)).setCell (p:=⟨w.heap.size,0,none⟩) (Nat.le_refl _) _).setCell (p:=⟨w.heap.size+1,0,none⟩) (by simp) _
   ·obtain ⟨f1,f2,f3,f4,f5⟩:=aLm;rw [M];clear M b4 a6
    gi_wp2
    refine ⟨(KeepsOthers.setCell _ _ _).trans (KeepsOthers.setCell _ _ _),⟨E,x,rfl,g1,Z⟩,⟨by simp [go_sem,ca],by simpa using fa,by simp [go_sem,cb],by simpa using fb⟩,?_⟩;exact (((S.bel).mono (show w.heap.size<=G.heap.size by omega)).setCell (p:=⟨w.heap.size,0,none⟩) (Nat.le_refl _) _).setCell (p:=⟨w.heap.size+1,0,none⟩) (by simp) _
   ·have f1:=aI8 (.pointer (some ⟨b,0,none⟩));have Z:mC x.1.2=false:=(by rw [d0];simp [mC,j6]);have a4:uS x.1.2=p.t:=(by rw [d0];simp [uS,j6]);have m8:p.t.length<=140000:=(by rw [d0] at i3;simp only [sz] at i3;omega);obtain ⟨tv,hc,hO⟩:=S.cell;have fr:=S.froz;have m2:=S.len
    have n3:E.length<=140000:=by
     have:=vS true [N.1.2];simp only [lK,szs,List.append_nil] at this;rw [Y] at this d5;simp only at this d5;omega
    obtain ⟨v',w',i8,b1,J,c6⟩:=wW w3.heap.size G.heap.size W.drew tv m6 (txs (aN E)) p.t hO m7 g4 (by omega);have O:W.grownBy w' tv.ownBlock:=⟨J.os,J.tape,J.output,J.size,J.block⟩
    have a9:v'.ownBlock=tv.ownBlock\/∃ g,v'.ownBlock=some g/\W.heap.size<=g:=by
     rcases c6 with h | h
     ·exact .inl h
     ·exact .inr ⟨_,h,Nat.le_refl _⟩
    obtain ⟨k1,k2,k3⟩:=S.app hc (t:=p.t) m8 ⟨Nat.le_refl _,by omega⟩ b1 O a9;have HT:Hid (Txt G w3 G.heap.size (E.length+1) (txs (aN E)++p.t) (w'.setCell ⟨G.heap.size,0,none⟩ v')):=k1;have HK:Hid (KpX G.heap.size G.heap.size W (w'.setCell ⟨G.heap.size,0,none⟩ v')):=k2;have b3:tv.ownBlock≠some G.heap.size:=fun e=>by have:=World.ownsRow.lt hO G.heap.size e;omega
    have n1:w'.cell? ⟨G.heap.size,0,none⟩=some tv:=O.cell hc (fun e=>b3 e.symm);have l5:w'.frozen? ⟨G.heap.size,0,none⟩=false:=(World.frozen?_of_block (O.block G.heap.size (World.block_lt_of_cell? W _ hc) (fun e=>b3 e.symm))).trans fr
    have HR:Hid (Res w.heap.size (w'.setCell ⟨G.heap.size,0,none⟩ v')):=by
     have i6:=U.lt;refine U.K ?_ ?_
     ·rw [heap_setCell_other _ _ _ _ (by simp;omega)];exact O.block _ (by omega) (fun e=>by have:=World.ownsRow.lt hO _ e.symm;omega)
     ·rw [heap_setCell_other _ _ _ _ (by simp;omega)];exact O.block _ (by omega) (fun e=>by have:=World.ownsRow.lt hO _ e.symm;omega)
    have HS:Hid (txs (aN (E++[x]))=txs (aN E)++p.t):=(by unfold Hid;rw [a6,a4]);have m3:=O.size;have HA:=a7 Z;obtain ⟨ta,X,c7,_,_⟩:=aU hO;obtain ⟨va,j1,b8,_,_⟩:=aU b1;obtain ⟨na,o4,l4,_,_⟩:=l7;rw [List.length_append] at b8;rw [M];clear b3 M b4 a6 a4 hO b1 J c6 a9 O k1 k2 S U a7 d0;subst c7 b8 l4
    gi_wp2
    gi_region_with (fail)
    all_goals gi_wp2
    all_goals exact ⟨k3,HK.out,HA,by rw [d7,HS.out];exact HT.out,HR.out,by simp;omega⟩
  case seq=>
   intro l R Rx W hW hR p7 n2 d1 hY;have q2:w3.heap.size<=W.heap.size:=hW.size;refine aGr (n - 1) (by omega) l (G.heap.size+1) (G.heap.size+1+1) G.heap.size G.heap.size true G N _ _ R Rx _ (Nat.le_refl _) (by rw [Y];exact d9) W hR ?_ hY ?_ ?_ d1.2.1.bel (by omega) ?_ ?_ d1 n2
   ·rintro s A B p5 ⟨g1,S,U,g4⟩ hg b7;refine ⟨g1,S.step hg (fun g e=>⟨by have:=(b7 g e).1;omega,(b7 g e).2⟩),U.K ?_ ?_,Nat.le_trans g4 hg.size⟩
    ·exact hg.block _ (by have:=U.lt;omega) (fun e=>by have:=(b7 _ e.symm).1;omega)
    ·exact hg.block _ U.lt (fun e=>by have:=(b7 _ e.symm).1;omega)
   ·rw [Y];exact m1.kept (aC hW) (by simp)
   ·exact l3.kept (aC hW) (by simp)
   ·intro h;have:=d1.2.1.high h;omega
   ·intro b hb;exact (d1.2.1.high hb).1
  case done=>
   rintro D ys W hD hS ⟨g1,S,U,g4⟩ hK;have h7:N.1.2=T:=by rw [Y]
   have HW:Hid (sI doc=true/\kG doc=txs (aN ys)):=by
    have:=aGg (T:=T) (ys:=aN ys) (by rw [<- h7];exact hS) (by intro x hx;simp only [aN,List.mem_map] at hx;obtain ⟨y,hy,rfl⟩:=hx;exact g1 y hy);unfold Hid sI kG;rw [HF.out,this];exact ⟨rfl,rfl⟩
   obtain ⟨tv,hc,hO⟩:=S.cell;have f7:=S.bel;obtain ⟨ta,X,c7,_,_⟩:=aU hO;have ca:=U.a;have cb:=U.b;have fa:=U.fa;have fb:=U.fb;have HO:Hid (OwB w3.heap.size W tv (txs (aN ys))):=hO;have i9:=World.ownsRow.lt hO;clear hO S U g1;generalize txs (aN ys)=o at *;subst c7
   gi_wp2
   have d2:=((KeepsOthers.setCell W ⟨w.heap.size,0,none⟩ (.slice ta o.length X)).trans (KeepsOthers.setCell _ ⟨w.heap.size+1,0,none⟩ (.bool true))).same D _ hK rfl;refine ⟨by simp,.inl ⟨_,_,rfl,run_takeDeferred d2,?_⟩⟩;have c1:((W.setCell ⟨w.heap.size,0,none⟩ (.slice ta o.length X)).setCell ⟨w.heap.size+1,0,none⟩ (.bool true)).cell? ⟨w.heap.size,0,none⟩=some (.slice ta o.length X):=(by simp [go_sem,ca]);have c2:((W.setCell ⟨w.heap.size,0,none⟩ (.slice ta o.length X)).setCell ⟨w.heap.size+1,0,none⟩ (.bool true)).cell? ⟨w.heap.size+1,0,none⟩=some (.bool true):=(by simp [go_sem,cb]);have g9:=cell_kept c1 (grownBy_putObj' _ D (.deferred none)) (fun r e=>by cases e;exact ⟨_,d2,rfl⟩);have h4:=cell_kept c2 (grownBy_putObj' _ D (.deferred none)) (fun r e=>by cases e;exact ⟨_,d2,rfl⟩);refine ⟨.tuple #[.slice ta o.length X,.bool true],?_,.slice ta o.length X,by rw [HW.out.1],?_,?_⟩
   ·simp [results,Tryz.f9,go_sem,g9,h4]
   ·rw [HW.out.2];exact dP (by omega) (ownsRow_putObj (cP (cP HO.out ⟨w.heap.size,0,none⟩ (.slice ta o.length X) (fun e=>by have:=i9 _ e;simp at this;omega)) ⟨w.heap.size+1,0,none⟩ (.bool true) (fun e=>by have:=i9 _ e;simp at this;omega)) _ d2 rfl)
   ·exact (((g5.trans (f7.mono (show w.heap.size<=G.heap.size by omega))).setCell (p:=⟨w.heap.size,0,none⟩) (Nat.le_refl _) _).setCell (p:=⟨w.heap.size+1,0,none⟩) (by simp) _).trans ⟨rfl,rfl,rfl,by simp,fun k hk=>World.putObj_heap_other (by omega)⟩
  case stop=>
   rintro D E W hD hS ⟨⟨q,x,hq,g1,gx⟩,U,g6⟩ hK;have h7:N.1.2=T:=by rw [Y]
   have HW:Hid (sI doc=false/\kG doc=[]):=by
    have:=aGF (T:=T) (q:=aN q) (x:=x.1.2) (by rw [<- h7];rw [hq] at hS;simpa [aN] using hS) (by intro x hx;simp only [aN,List.mem_map] at hx;obtain ⟨y,hy,rfl⟩:=hx;exact g1 y hy) gx;unfold Hid sI kG;rw [HF.out,this];exact ⟨rfl,rfl⟩
   have ca:=U.a;have cb:=U.b;clear U g1 hq
   gi_wp2
   refine ⟨by simp,.inl ⟨_,_,rfl,run_takeDeferred hK,?_⟩⟩;have g9:=cell_kept ca (grownBy_putObj' _ D (.deferred none)) (fun r e=>by cases e;exact ⟨_,hK,rfl⟩);have h4:=cell_kept cb (grownBy_putObj' _ D (.deferred none)) (fun r e=>by cases e;exact ⟨_,hK,rfl⟩);refine ⟨.tuple #[.slice none 0 0,.bool false],?_,.slice none 0 0,by rw [HW.out.1],by rw [HW.out.2];exact World.ownsRow_nil _ _ _ _,(g5.trans g6).trans ⟨rfl,rfl,rfl,by simp,fun k hk=>World.putObj_heap_other (by omega)⟩⟩;simp [results,Tryz.f9,go_sem,g9,h4]
 ·have H1:Hid (sI doc=false/\kG doc=[]):=(by unfold Hid sI kG uE;rw [if_neg (by rw [hs];simp)];exact ⟨rfl,rfl⟩);have ca:=c0.a;have cb:=c0.b;have fa:=c0.fa;have fb:=c0.fb;clear h6 h5 hs
  gi_wp2
  refine ⟨.tuple #[.slice none 0 0,.bool false],?_,.slice none 0 0,by rw [H1.out.1],by rw [H1.out.2];exact World.ownsRow_nil _ _ _ _,?_⟩
  ·simp [results,Tryz.f9,go_sem,ca,cb]
  ·exact (g5.setCell (p:=⟨w.heap.size,0,none⟩) (Nat.le_refl _) _).setCell (p:=⟨w.heap.size+1,0,none⟩) (by simp) _
theorem aB0 (v:Value) (doc:List Pc) (w:World) (hv:RdP w.heap.size w v doc) (A:Doc doc) (y:Tab w) :
  Calls prog 9 #[v] w fun e w'=>∃ h,e=.returned (.tuple #[h,.bool (sI doc)])/\OwB w.heap.size w' h (kG doc)/\w.grownBy w' none:=
 (callsIn_wide.1 (aDU 3 (Nat.le_refl _) v doc w hv A y)).mono fun _ _ ⟨h,h1,h2,h3⟩=>⟨h,h1,h2,aC h3⟩
end Go.Proofs.YtmfehflibkokbaaGreatDoor
namespace Go.Proofs.YtmfehflibkokbaaGreatDoor
open Go.Proofs.Tryz
open Go.RowKit
theorem aEk {y:List Cm} (h:∀ c∈y,CmD 65 c):xC y:=fun c A=>⟨by have:=(h c A).1;omega,(h c A).2⟩
theorem yA:∀ {y:List Cm},(∀ c∈y,CmD 65 c)->bQ y<=65*y.length
 | [],_=>by simp [bQ]
 | c::y,h=>by
   have D:=(h c (by simp)).1;have E:=yA (fun x A=>h x (by simp [A]):∀ x∈y,CmD 65 x);simp only [bQ,List.length_cons]
   push_cast
   omega
theorem aLf {p:Nod} (h:NdD 65 p):xJ p:=⟨⟨by have:=h.L.1;omega,aEk h.L.2⟩,⟨by have:=h.tail.1;omega,aEk h.tail.2⟩,by have:=h.key.1;omega,⟨by have:=h.X.1;omega,h.X.2⟩,by have:=h.U.1;omega⟩
theorem aFn:∀ {A:List Nod},(∀ p∈A,NdD 65 p)->eY A<=9000*A.length/\fR A<=130*A.length
 | [],_=>by simp [eY,fR]
 | p::A,h=>by
   have y:=h p (by simp);obtain ⟨J,S⟩:=aFn (fun x D=>h x (by simp [D]):∀ x∈A,NdD 65 x);have a1:=yA y.L.2;have a2:=yA y.tail.2;have G:=y.L.1;have E:=y.tail.1;have N:=y.key.1;have O:=y.X.1;have M:=y.U.1;simp only [eY,fR,nr,nc,List.length_cons]
   push_cast
   omega
section
variable {t:Tre}
theorem Tdr.ok (h:Tdr t):aA6 t:=⟨fun p y=>⟨aLf (h.n p y),(h.n p y).C⟩,by have:=h.l;omega,by have:=h.tl;omega,aEk h.t⟩
theorem Tdr.tok (h:Tdr t):TOk t:=⟨by have:=h.l;omega,fun p y=>⟨by have:=(h.n p y).L.1;omega,fun c A=>by have:=((h.n p y).L.2 c A).1;omega,by have:=(h.n p y).key.1;omega,by have:=(h.n p y).X.1;omega,by have:=(h.n p y).U.1;omega,by have:=(h.n p y).tail.1;omega,fun c A=>by have:=((h.n p y).tail.2 c A).1;omega⟩,by have:=h.tl;omega,fun c A=>by have:=(h.t c A).1;omega⟩
theorem Tdr.sum (h:Tdr t):eY t.N+bQ t.tail<=100000000/\fR t.N+t.tail.length<=100000000:=by
 obtain ⟨E,G⟩:=aFn h.n;have D:=yA h.t;have y:=h.l;have A:=h.tl;constructor<;>omega
noncomputable def aAS (t:Tre):Tre:=⟨if cC t=true then t.N.map qQ else [],[]⟩
theorem Tdr.str (h:Tdr t):Tdr (aAS t):=by
 refine ⟨?_,fun p D=>?_,by simp [aAS],fun c A=>by simp [aAS] at A⟩
 ·unfold aAS
  split
  ·simpa using h.l
  ·simp
 ·unfold aAS at D
  split at D
  ·obtain ⟨q,E,rfl⟩:=List.mem_map.1 D;have y:=h.n q E;exact ⟨y.k,⟨by simp [qQ],fun c A=>by simp [qQ] at A⟩,y.key,y.X,y.U,y.C,⟨by simp [qQ],fun c A=>by simp [qQ] at A⟩⟩
  ·simp at D
theorem aHh (t:Tre):zE (aAS t):=by
 refine ⟨fun p h=>?_,rfl⟩;unfold aAS at h
 split at h
 ·obtain ⟨q,y,rfl⟩:=List.mem_map.1 h;exact ⟨rfl,rfl⟩
 ·simp at h
theorem Tdr.valid (h:Tdr t) (u v:Value) (W:World) (hv:eF W.heap.size W u v t):Calls prog 16 #[.agg #[u,v]] W fun e y=>e=.returned (.bool (cC t))/\W.grownBy y none:=by
 have:=tR u v t W hv h.ok h.sum.1 h.sum.2;rw [aA9 t h.ok] at this;exact this
theorem Tdr.strip (h:Tdr t) (u v:Value) (W:World) (hv:eF W.heap.size W u v t):Calls prog 5 #[.agg #[u,v]] W fun e w'=>∃ y,e=.returned (.agg #[y,.slice none 0 0])/\eF w'.heap.size w' y (.slice none 0 0) (aAS t)/\W.grownBy w' none:=by
 refine (aAR u v t (cC t) W hv h.tok (fun W A=>h.valid u v W A)).mono ?_;rintro e w' ⟨y,rfl,D,E⟩;exact ⟨y,rfl,⟨D,none,0,rfl,Nat.le_refl _,by unfold maxLen;omega,fun h=>absurd rfl h⟩,E⟩
theorem Tdr.build (h:Tdr t) (i:Int) (u v:Value) (W:World) (hv:eF W.heap.size W u v t):Calls prog 6 #[.agg #[u,v],.int .i64 i] W fun e w'=>∃ a n c,e=.returned (.tuple #[.slice a n c,.int .i64 (bdR (cC t) i t).2])/\W.grownBy w' none:=by
 refine (aAG t i (cC t) (fun A=>?_) u v W hv (fun W E=>h.valid u v W E)).mono ?_
 ·have:=oV t h.ok A;exact ⟨this.d,this.w,this.wk⟩
 ·rintro e w' ⟨G,rfl,y,D⟩;obtain ⟨a,c,hv,_⟩:=y.rdP;exact ⟨a,_,c,by rw [<- hv],D⟩
theorem Tdr.format (h:Tdr t) (width i m:Int) (u v:Value) (W:World) (hv:eF W.heap.size W u v t) (y:Tab W) (A:W.cell? ⟨1,0,none⟩=some (.int .i64 m)):Calls prog 7 #[.agg #[u,v],.int .i64 width,.int .i64 i] W fun e w'=>∃ D,e=.returned (.tuple #[D,.int .i64 (ftR (cC t) width i t).2])/\OwB W.heap.size w' D (ftR (cC t) width i t).1/\W.grownBy w' none:=
 yY t width i m (cC t) (fun E=>oV t h.ok E) h.ok u v W hv y A (fun W G y A=>nA u v t m W G h.ok y A)
theorem Tdr.doc (h:Tdr t) (i m:Int) (u v:Value) (W:World) (hv:eF W.heap.size W u v t) (A:Tab W) (D:W.cell? ⟨1,0,none⟩=some (.int .i64 m)):Calls prog 8 #[.agg #[u,v],.int .i64 i] W fun e w'=>∃ y,e=.returned (.tuple #[y,.int .i64 (bdR (cC t) i t).2])/\RdP w'.heap.size w' y (bdR (cC t) i t).1/\W.grownBy w' none:=by
 refine (sB t i m (cC t) (fun J=>?_) u v W hv A D (fun W N A D=>nA u v t m W N h.ok A D)).mono ?_
 ·have:=oV t h.ok J;exact ⟨⟨this.d.nd,this.d.ok,fun p G=>(this.d.cn p G).2,this.d.wt⟩,h.ok.t.2,this.wt,this.wk⟩
 ·rintro e w' ⟨y,rfl,E,M⟩;exact ⟨y,rfl,E.po.pi.rdP,M⟩
structure Fit (t:Tre) (i:Int) (o0 o1 s:List Int) (ps:List Pc):Prop where
 bd:bdR (cC t) i t=(ps++[⟨4,[],0⟩,nF],0)
 f0:ftR (cC t) 0 i t=(o0,0)
 f1:ftR (cC t) 65535 i t=(o1,0)
 c0:o0.count 10=lnS t.N+1
 l0:o0.length<=560140000
 l1:o1.length<=560140000
 dc:Doc ps
 pl:1<=ps.length
 fb:sI ps=true
 fl:kG ps=s
 sl:s.length<=140000
 sb:Bys s
 one:aI s<=65535->o1=s++[10]
theorem aKX (h:Tdr t) (M:zE t) {i:Int} (D:(bdR (cC t) i t).2=0):∃ o0 o1 s ps,Fit t i o0 o1 s ps:=by
 by_cases hv:cC t=true/\0<=i/\i<=16
 ·have y:=oV t h.ok hv.1;cases A:dU (dT i t) with
  | true=>unfold bdR at D;rw [if_pos hv,if_pos A] at D;simp at D
  | false=>
    have U:bdR (cC t) i t=(dT i t,0):=(by unfold bdR;rw [if_pos hv,if_neg (by rw [A];simp)]);have J:∀ width:Int,0<=width->width<=65535->ftR (cC t) width i t=(qU width i t,0):=fun width Z h1=>by unfold ftR;rw [if_pos ⟨hv.1,⟨Z,h1⟩,hv.2⟩,if_neg (by rw [A];simp)]
    obtain ⟨s,S⟩:=aDI (ind:=i) 201 false _ _ y.wk y.C M.n;obtain ⟨Y,d2,O⟩:=aJk hv.2.1 hv.2.2 y M A;have E:uE (aJ i 201 t.N).1=some s:=(by unfold uE;rw [if_pos d2,O];exact S);have X:=pJ _ _ (vG hv.2.1 201 false _ _ y.wk y.C y.x) S;have G:kG (aJ i 201 t.N).1=s:=(by unfold kG;rw [E];rfl);refine ⟨qU 0 i t,qU 65535 i t,s,(aJ i 201 t.N).1,?_,J 0 (by omega) (by omega),J 65535 (by omega) (by omega),aLw hv.2.1 y M,?_,?_,Y,?_,by unfold sI;rw [E];rfl,G,?_,aG2 X.1,fun hw=>aJp y M S hw⟩
    ·rw [U,aC5 y M]
    ·exact (aEC y hv.2.1 hv.2.2 (by omega) (by omega) A).2.2
    ·exact (aEC y hv.2.1 hv.2.2 (by omega) (by omega) A).2.2
    ·exact List.length_pos_iff.2 (fun e=>by rw [e] at O;simp [bd] at O)
    ·rw [<- G];exact aES _
 ·unfold bdR at D;rw [if_neg hv] at D;simp at D
end
theorem aAp {y A:List Int} (k:Nat) (h:y[k]?.getD 0≠A[k]?.getD 0):decide (y=A)=false:=by
 simp only [decide_eq_false_iff_not];intro e;exact h (by rw [e])
theorem aGG (va vb:Value) (y A:List Int) (w:World) (ha:Rd .u8 w.heap.size w va y) (hb:Rd .u8 w.heap.size w vb A) (hn:y.length<=600000000) :
  Calls prog 11 #[va,vb] w fun e w'=>e=.returned (.bool (decide (y=A)))/\∃ m,w'=w.drewN m:=by
 obtain ⟨a,b3,rfl,Z⟩:=ha;obtain ⟨b,b4,rfl,S⟩:=hb
 by_cases Y:y.length=A.length
 ·have a6:((y.length:Int) != (A.length:Int))=false:=(by simp [Y]);have HL:Hid (y.length=A.length):=Y;clear Y
  go_enter func11,ntmps11
  go_wp2
  go_loopw [5] (fun i wr=>∃ k m:Nat,k<=y.length/\i=.int .i64 k/\y.take k=A.take k/\wr=w.drewN m)
   (fun i _=>y.length - (intOf i).toNat)
  case atStart=>exact ⟨0,0,Nat.zero_le _,rfl,by simp,rfl⟩
  case round=>
   obtain ⟨k,m,hk,rfl,O,a7⟩:=hrel;subst a7
   by_cases E:k<y.length
   ·have D:k<A.length:=(by rw [<- HL.out];exact E);obtain ⟨ba,b2,rfl,b5,a5⟩:=Z (fun h=>by simp [h] at E);obtain ⟨bb,b1,rfl,c2,X⟩:=S (fun h=>by simp [h] at D);have U:=a5 k E;have N:=X k D;have M:=eG y k E;have J:=eG A k D;have c0:(k:Int)<(y.length:Int):=(by omega);have b7:(k:Int)<(A.length:Int):=(by omega);clear a5 X Z S
    by_cases G:y[k]?.getD 0=A[k]?.getD 0
    ·have HT:Hid (y.take (k+1)=A.take (k+1)):=(by unfold Hid;rw [M,J,O,G]);clear M J O;rw [<- G] at N;clear G;generalize y[k]?.getD 0=z at U N;go_wp2
     go_quiet (fail)
     go_wp2
     go_roundw
     case rel=>exact ⟨k+1,_,by omega,by go_num,HT.out,rfl⟩
     case measure=>simp [intOf];omega
    ·have HF:Hid (decide (y=A)=false):=aAp k G;generalize y[k]?.getD 0=z at U G;generalize A[k]?.getD 0=z2 at N G;clear M J O;have c1:(z != z2)=true:=(by simp [G]);clear G;go_wp2
     go_quiet (fail)
     go_wp2;go_ret;exact ⟨by rw [HF.out];rfl,m+nq,by rw [World.drewN_drewN]⟩
   ·have HF:Hid (decide (y=A)=true):=by
     unfold Hid;rw [List.take_of_length_le (by omega),List.take_of_length_le (by have:=HL.out;omega)] at O;simp [O]
    clear O;go_wp2;go_ret;exact ⟨by rw [HF.out];rfl,_,rfl⟩
 ·have a6:((y.length:Int) != (A.length:Int))=true:=by simp;omega
  have HF:Hid (decide (y=A)=false):=by
   unfold Hid;simp only [decide_eq_false_iff_not];intro e;exact Y (by rw [e])
  clear Y
  go_enter func11,ntmps11
  go_wp2;go_ret;exact ⟨by rw [HF.out];rfl,0,rfl⟩
end Go.Proofs.YtmfehflibkokbaaGreatDoor
