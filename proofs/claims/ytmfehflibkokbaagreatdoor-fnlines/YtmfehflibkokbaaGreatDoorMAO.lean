import Derived.Deep.RegionLaw
import Derived.Test.YtmfehflibkokbaaGreatDoorMAN
set_option maxHeartbeats 16000000
set_option maxRecDepth 100000
namespace Go.Proofs.YtmfehflibkokbaaGreatDoor
open Go.Proofs.Tryz
open Go.RowKit
theorem aJv {p:Prop} (h:p):Hid p:=h
def sJ (b:Nat):Value:=.iface 185 (.pointer (some ⟨b,0,none⟩))
def isG:Value->Bool
 | .iface t _=>t==185
 | _=>false
def gO (l:List Value):Nat:=(l.filter isG).length
theorem aF4 (l:List Value) (v:Value):gO (l++[v])=gO l+if isG v then 1 else 0:=by
 unfold gO;rw [List.filter_append,List.length_append];cases h:isG v<;>simp [h]
theorem aCB (l:List Value):gO l<=l.length:=List.length_filter_le _ _
structure aEa (l:List Value) (k:Nat) (f:Value->Option Value):Prop where
 at_:∀ i b,i<k->l[i]?=some (sJ b)->f (.pointer (some ⟨b,0,none⟩))=some (.int .i64 (gO (l.take i):Int))
 only:∀ b,f (.pointer (some ⟨b,0,none⟩))≠none->sJ b∈l.take k
theorem wP (B:Nat) (nv u0:Value) (T0:Tr) (l:List Value) (w:World) (U:w.ownsRow B 62 1 nv l.length l) (hr:Rep (fun _=>False) B w u0 T0) (hp:cS w u0 T0 l) (ho:lF (fun _=>False) w l) :
  Calls prog 82 #[nv] w fun e w'=>∃ f,e=.returned (.map (some w.heap.size))/\P.MapIs w' w.heap.size f (gO l)/\aEa l l.length f/\w.grownBy w' none:=by
 obtain ⟨a,cap,c3,h8,c5⟩:=aU U;subst c3;unfold maxLen at c5;have HR:Hid (w.ownsRow B 62 1 (.slice a l.length cap) l.length l):=U;have d2:Hid (Rep (fun _=>False) B w u0 T0):=hr;have c6:Hid (cS w u0 T0 l):=hp;have b0:Hid (lF (fun _=>False) w l):=ho;clear U hr hp ho;have g7:(Instr.makeMap 102 none).run prog w=.ok (.map (some w.heap.size)) (w.alloc (.map #[] 0)):=run_makeMap _ _
 go_enter func82,ntmps82
 go_wp2
 go_loopw [11] (fun i wr=>∃ (k:Nat) (f:Value->Option Value),k<=l.length/\i=.int .i64 k/\P.MapIs wr w.heap.size f (gO (l.take k))/\Hid (aEa l k f)/\w.grownBy wr none) (fun i _=>l.length - (intOf i).toNat)
 case atStart=>exact ⟨0,_,Nat.zero_le _,rfl,P.mapIs_made w,⟨fun i b h=>by omega,fun b h=>absurd rfl h⟩,gWA⟩
 case round=>
  obtain ⟨k,f,hk,rfl,Z,X,hg⟩:=hrel
  by_cases b3:k<l.length
  ·obtain ⟨v,hv⟩:∃ v,l[k]?=some v:=⟨_,List.getElem?_eq_getElem b3⟩;obtain ⟨T,he,D,g8⟩:=kD d2.out c6.out k v hv;have Y:v∈l:=List.mem_of_getElem? hv;have G:l.take (k+1)=l.take k++[v]:=(by rw [List.take_add_one,hv];rfl);have E:=aF4 (l.take k) v;rw [<- G] at E;have d4:=aCB (l.take k);rw [List.length_take] at d4;rcases HR.out.2 with ⟨_,h0⟩ | ⟨g,cp,h5,c0,h3,d0,d9,h4,c8,c4⟩
   ·omega
   cases c0;have a6:=World.ownsRow.cellAt HR.out k (by omega);rw [hv] at a6;have m0:=hg.cell a6 (by simp);clear a6 d0 c8 c4;have HM:=aJv Z;have HG:=aJv hg
   by_cases A:isG v=true
   ·obtain ⟨b,O⟩:∃ b,v=sJ b:=by
     cases T with
     | leaf p=>
       exfalso;simp only [Rep] at D;rcases D with h | h | h | h | h | ⟨_,b,tv,h,_⟩
       ·rw [h.2] at A;simp [isG] at A
       ·rw [h.2] at A;simp [isG] at A
       ·rw [h.2] at A;simp [isG] at A
       ·rw [h.2] at A;simp [isG] at A
       ·rw [h.2] at A;simp [isG] at A
       ·rw [h] at A;simp [isG] at A
     | un p x=>
       simp only [Rep] at D;obtain ⟨b,u,_,_,_,_,h | h⟩:=D
       ·exact ⟨b,h.2⟩
       ·rw [h.2] at A;simp [isG] at A
     | bin p x y=>
       exfalso;simp only [Rep] at D;obtain ⟨b,u,u',_,_,_,_,_,_,h | h⟩:=D
       ·rw [h.2] at A;simp [isG] at A
       ·rw [h.2] at A;simp [isG] at A
    have S:sJ b ∉ l.take k:=by
     intro hm;have c9:=b0.out.nd;obtain ⟨i,hi⟩:=List.mem_iff_getElem?.1 hm;have N:i<k:=(by have:=(List.getElem?_eq_some_iff.1 hi).1;simp at this;omega);rw [List.getElem?_take_of_lt N] at hi;have:=List.pairwise_iff_getElem.1 c9 i k (by omega) b3 N;have e1:l[i]'(by omega)=sJ b:=(List.getElem?_eq_some_iff.1 hi).2;have e2:l[k]=sJ b:=(by rw [<- O];exact (List.getElem?_eq_some_iff.1 hv).2);exact this _ b e2 (by rw [e1,e2])
    have b6:f (.pointer (some ⟨b,0,none⟩))=none:=by
     cases hx:f (.pointer (some ⟨b,0,none⟩)) with
     | none=>rfl
     | some y=>exact absurd (X.out.only b (by rw [hx];simp)) S
    have a8:P.NKey wr (.pointer (some ⟨b,0,none⟩)):=by
     rw [O] at Y;obtain ⟨_,cs,t',hb⟩:=b0.out.lt _ _ Y;exact (P.NKey.ptr b cs t' hb).K hg
    have d1:=aJv a8
    have J:Hid (aEa l (k+1) (fun k'=>if kEq (.pointer (some ⟨b,0,none⟩)) k' then some (.int .i64 (gO (l.take k):Int)) else f k')):=by
     refine ⟨fun i c hi M=>?_,fun c M=>?_⟩
     ·by_cases e:i=k
      ·subst e;rw [hv,O] at M;have a5:b=c:=(by simpa [sJ] using M);subst a5;rw [if_pos (P.kEq_self a8)]
      ·have N:i<k:=by omega
       have c1:b≠c:=by
        intro a5;subst a5;refine S (List.mem_iff_getElem?.2 ⟨i,?_⟩);rw [List.getElem?_take_of_lt N];exact M
       rw [if_neg (by simp [kEq,iL,c1])];exact X.out.at_ i c N M
     ·rw [G]
      by_cases e:b=c
      ·subst e;rw [O];exact List.mem_append_right _ (by simp)
      ·rw [if_neg (by simp [kEq,iL,e])] at M;exact List.mem_append_left _ (X.out.only c M)
    have g1:=Z.run_len underlying102 3
    have a4:(if (f (.pointer (some ⟨b,0,none⟩))).isSome then gO (l.take k) else gO (l.take k)+1)=gO (l.take (k+1)):=by
     rw [b6,E,if_pos A];simp
    have b1:=aJv a4;obtain ⟨f1,f2,f3,f4,f5,f6,f7,f8,f9,i2⟩:=nS (.pointer (some ⟨b,0,none⟩));subst O;unfold sJ at *;clear D he X hv hg Y Z a8 S b6 a4 E G A;generalize gO (l.take k)=ck at *
    go_wp2_with (at_mapUpdate;refine P.wpList_mapUpdate_node _ rfl _ _ _ 102 rfl 3 underlying102 _ ck f rfl HM.out _ _ rfl rfl d1.out ?_;intro w1 c2 d3)
    go_roundw
    case rel=>
     have b7:P.MapIs w1 w.heap.size (fun k'=>if kEq (.pointer (some ⟨b,0,none⟩)) k' then some (.int .i64 (ck:Int)) else f k') (if (f (.pointer (some ⟨b,0,none⟩))).isSome then ck else ck+1):=c2;rw [b1.out] at b7;exact ⟨k+1,_,by omega,by go_num,b7,J.out,bA HG.out d3 (fun j e=>by cases e;exact Nat.le_refl _)⟩
    case measure=>simp [intOf];omega
   ·have b2:Hid (gO (l.take (k+1))=gO (l.take k)):=by unfold Hid;rw [E,if_neg A];rfl
    have J:Hid (aEa l (k+1) f):=by
     refine ⟨fun i c hi M=>?_,fun c M=>?_⟩
     ·by_cases e:i=k
      ·subst e;rw [hv] at M;rw [Option.some.inj M] at A;simp [sJ,isG] at A
      ·exact X.out.at_ i c (by omega) M
     ·rw [G];exact List.mem_append_left _ (X.out.only c M)
    obtain ⟨t,y,a7,i0⟩:∃ t y,v=.iface t y/\aR t 185 y (.pointer none):=by
     cases T with
     | leaf p=>
       simp only [Rep] at D;rcases D with h | h | h | h | h | ⟨_,b,tv,h,_⟩
       ·exact ⟨_,_,h.2,nN.2.2.2.2.2.2.1⟩
       ·exact ⟨_,_,h.2,qN.2.2.2.2.2.2.1⟩
       ·exact ⟨_,_,h.2,qP.2.2.2.2.2.2.1⟩
       ·exact ⟨_,_,h.2,tY.2.2.2.2.2.2.1⟩
       ·exact ⟨_,_,h.2,xQ.2.2.2.2.2.2.1⟩
       ·exact ⟨_,_,h,(qG _).2.2.2.2.2.2.1⟩
     | un p x=>
       simp only [Rep] at D;obtain ⟨b,u,_,_,_,_,h | h⟩:=D
       ·rw [h.2] at A;simp [isG] at A
       ·exact ⟨_,_,h.2,(pW _).2.2.2.2.2.2.1⟩
     | bin p x y=>
       simp only [Rep] at D;obtain ⟨b,u,u',_,_,_,_,_,_,h | h⟩:=D
       ·exact ⟨_,_,h.2,(vA _).2.2.2.2.2.2.1⟩
       ·exact ⟨_,_,h.2,(tZ _).2.2.2.2.2.2.1⟩
    subst a7;clear D he X hv hg Y Z E G A;go_wp2
    go_roundw
    case rel=>exact ⟨k+1,f,by omega,by go_num,by rw [b2.out];exact HM.out,J.out,HG.out⟩
    case measure=>simp [intOf];omega
  ·have c7:k=l.length:=by omega
   have b5:Hid (P.MapIs wr w.heap.size f (gO l)/\aEa l l.length f):=by
    have h1:=X.out;rw [c7] at h1 Z;rw [List.take_length] at Z;exact ⟨Z,h1⟩
   clear X Z;go_wp2;go_ret;exact ⟨f,rfl,b5.out.1,b5.out.2,hg⟩
theorem aHg:(prog.info? 154).map (fun i=>(i.zero,i.size,i.bytes))=some (some (.agg #[.nilIface,.int .i64 0,.bool false,.int .i64 0,.bool false]),5,48):=by kernel_rfl
structure Tk where
 v:Value
 T:Tr
 n:Nat
 ind:Int
 fl:Bool
 bw:Int
 be:Bool
def Tk.val (t:Tk):Value:=.agg #[t.v,.int .i64 t.ind,.bool t.fl,.int .i64 t.bw,.bool t.be]
def Tk.cells (t:Tk):List Value:=[t.v,.int .i64 t.ind,.bool t.fl,.int .i64 t.bw,.bool t.be]
def gE:List Tk->List Value
 | []=>[]
 | t::r=>t.cells++gE r
theorem pH:∀ (r:List Tk),(gE r).length=r.length*5
 | []=>rfl
 | t::r=>by simp only [gE,List.length_append,pH r,Tk.cells,List.length_cons,List.length_nil];omega
theorem pC:∀ (r s:List Tk),gE (r++s)=gE r++gE s
 | [],s=>rfl
 | t::r,s=>by simp only [List.cons_append,gE,pC r s,List.append_assoc]
theorem zS (t:Tk):gE [t]=t.cells:=by simp [gE]
structure Pr (pb:Nat) (w0 w:World) (a0 a1 a2 a3 wv tv hv:Value) (ts:List Tk) (tx:List Int) (col:Int) (ch:List Int):Prop where
 bel:Below pb w0 w
 c0:w.cell? ⟨pb,0,none⟩=some a0
 c1:w.cell? ⟨pb,1,none⟩=some a1
 c2:w.cell? ⟨pb,2,none⟩=some a2
 c3:w.cell? ⟨pb,3,none⟩=some a3
 c4:w.cell? ⟨pb,4,none⟩=some wv
 c5:w.cell? ⟨pb,5,none⟩=some tv
 c6:w.cell? ⟨pb,6,none⟩=some (.int .i64 col)
 c7:w.cell? ⟨pb,7,none⟩=some hv
 fz:∀ j,w.frozen? ⟨pb,j,none⟩=false
 wrow:w.ownsRow (pb+1) 154 5 wv ts.length (gE ts)
 trow:OwB (pb+1) w tv tx
 hrow:OwI (pb+1) w hv ch
 dwt:∀ g,wv.ownBlock=some g->tv.ownBlock≠some g
 dwh:∀ g,wv.ownBlock=some g->hv.ownBlock≠some g
 dth:∀ g,tv.ownBlock=some g->hv.ownBlock≠some g
section
variable {pb:Nat} {w0 w:World} {a0 a1 a2 a3 wv tv hv:Value} {ts:List Tk} {tx:List Int} {col:Int} {ch:List Int}
theorem Pr.lt (h:Pr pb w0 w a0 a1 a2 a3 wv tv hv ts tx col ch):pb<w.heap.size:=World.block_lt_of_cell? w _ h.c0
theorem mT {w w':World} {pb:Nat} (y:pb<w.heap.size) {r:Option Nat} (D:w.grownBy w' r) (A:r≠some pb) (h:∀ j,w.frozen? ⟨pb,j,none⟩=false):∀ j,w'.frozen? ⟨pb,j,none⟩=false:=
 fun j=>(World.frozen?_of_block (D.block pb y (fun e=>A e.symm))).trans (h j)
theorem fM {B:Nat} {w w':World} {e:TypeId} {size n:Nat} {v:Value} {xs:List Value} {r:Option Nat} (h:w.ownsRow B e size v n xs) (A:w.grownBy w' r) (y:∀ g,v.ownBlock=some g->r≠some g):w'.ownsRow B e size v n xs:=
 World.ownsRow.kept h A (by
  cases hv:v.ownBlock with
  | none=>exact .inl rfl
  | some k=>exact .inr fun e=>y k hv e.symm)
theorem Pr.K (h:Pr pb w0 w a0 a1 a2 a3 wv tv hv ts tx col ch) {w':World} (y:w.grownBy w' none):Pr pb w0 w' a0 a1 a2 a3 wv tv hv ts tx col ch:=
 ⟨h.bel.grown y (Nat.le_of_lt h.lt) (fun k e=>by cases e),y.cell h.c0 (by simp),y.cell h.c1 (by simp),y.cell h.c2 (by simp),y.cell h.c3 (by simp),y.cell h.c4 (by simp),y.cell h.c5 (by simp),y.cell h.c6 (by simp),y.cell h.c7 (by simp),
  mT h.lt y (by simp) h.fz,fM h.wrow y (by simp),fM h.trow y (by simp),fM h.hrow y (by simp),h.dwt,h.dwh,h.dth⟩
theorem Pr.work (h:Pr pb w0 w a0 a1 a2 a3 wv tv hv ts tx col ch) {Y:World} {wv':Value} {G:List Tk} (A:w.grownBy Y wv.ownBlock) (E:Y.ownsRow (pb+1) 154 5 wv' G.length (gE G))
  (a4:wv'.ownBlock=wv.ownBlock\/∃ g,wv'.ownBlock=some g/\w.heap.size<=g):Pr pb w0 (Y.setCell ⟨pb,4,none⟩ wv') a0 a1 a2 a3 wv' tv hv G tx col ch:=by
 have U:=h.lt;have N:=World.ownsRow.lt h.wrow;have O:=World.ownsRow.lt h.trow;have S:=World.ownsRow.lt h.hrow;have hn:wv.ownBlock≠some pb:=fun e=>by have:=N pb e;omega
 have y:some pb≠wv.ownBlock:=fun e=>hn e.symm;have a6:∀ g,wv'.ownBlock=some g->pb+1<=g:=fun g e=>(World.ownsRow.lt E g e).1;have d0:=A.cell h.c0 y;have d1:=A.cell h.c1 y;have d2:=A.cell h.c2 y;have d3:=A.cell h.c3 y;have d4:=A.cell h.c4 y;have d5:=A.cell h.c5 y;have d6:=A.cell h.c6 y;have d7:=A.cell h.c7 y;have a5:=mT U A hn h.fz
 have D:∀ (v:Value),(∀ g,v.ownBlock=some g->g<w.heap.size)->(∀ g,wv.ownBlock=some g->v.ownBlock≠some g)->∀ g,wv'.ownBlock=some g->v.ownBlock≠some g:=by
  intro v X Z g J M;rcases a4 with e | ⟨g',e,b0⟩
  ·exact Z g (by rw [<- e];exact J) M
  ·rw [J] at e;cases e;have:=X g M;omega
 refine ⟨(h.bel.grown A (Nat.le_of_lt U) (fun k e=>by have:=N k e;omega)).setCell (p:=⟨pb,4,none⟩) (Nat.le_refl _) _,by simp [go_sem,d0],by simp [go_sem,d1],by simp [go_sem,d2],by simp [go_sem,d3],by simp [go_sem,d4],by simp [go_sem,d5],by simp [go_sem,d6],by simp [go_sem,d7],fun j=>by simpa using a5 j,?_,?_,?_,?_,?_,h.dth⟩
 ·exact cP E _ _ (fun e=>by have:=a6 pb e;omega)
 ·exact cP (fM h.trow A (fun g J M=>h.dwt g M J)) _ _ (fun e=>by have:=O pb e;omega)
 ·exact cP (fM h.hrow A (fun g J M=>h.dwh g M J)) _ _ (fun e=>by have:=S pb e;omega)
 ·exact D tv (fun g e=>(O g e).2) h.dwt
 ·exact D hv (fun g e=>(S g e).2) h.dwh
theorem Pr.X (h:Pr pb w0 w a0 a1 a2 a3 wv tv hv ts tx col ch) {Y:World} {tv':Value} {tx':List Int} (A:w.grownBy Y tv.ownBlock) (J:OwB (pb+1) Y tv' tx')
  (a4:tv'.ownBlock=tv.ownBlock\/∃ g,tv'.ownBlock=some g/\w.heap.size<=g):Pr pb w0 (Y.setCell ⟨pb,5,none⟩ tv') a0 a1 a2 a3 wv tv' hv ts tx' col ch:=by
 have S:=h.lt;have M:=World.ownsRow.lt h.wrow;have N:=World.ownsRow.lt h.trow;have O:=World.ownsRow.lt h.hrow;have hn:tv.ownBlock≠some pb:=fun e=>by have:=N pb e;omega
 have y:some pb≠tv.ownBlock:=fun e=>hn e.symm;have a6:∀ g,tv'.ownBlock=some g->pb+1<=g:=fun g e=>(World.ownsRow.lt J g e).1;have d0:=A.cell h.c0 y;have d1:=A.cell h.c1 y;have d2:=A.cell h.c2 y;have d3:=A.cell h.c3 y;have d4:=A.cell h.c4 y;have d5:=A.cell h.c5 y;have d6:=A.cell h.c6 y;have d7:=A.cell h.c7 y;have a5:=mT S A hn h.fz
 have G:∀ (v:Value),(∀ g,v.ownBlock=some g->g<w.heap.size)->(∀ g,tv.ownBlock=some g->v.ownBlock≠some g)->∀ g,tv'.ownBlock=some g->v.ownBlock≠some g:=by
  intro v U Z g D E;rcases a4 with e | ⟨g',e,b0⟩
  ·exact Z g (by rw [<- e];exact D) E
  ·rw [D] at e;cases e;have:=U g E;omega
 refine ⟨(h.bel.grown A (Nat.le_of_lt S) (fun k e=>by have:=N k e;omega)).setCell (p:=⟨pb,5,none⟩) (Nat.le_refl _) _,by simp [go_sem,d0],by simp [go_sem,d1],by simp [go_sem,d2],by simp [go_sem,d3],by simp [go_sem,d4],by simp [go_sem,d5],by simp [go_sem,d6],by simp [go_sem,d7],fun j=>by simpa using a5 j,?_,?_,?_,?_,h.dwh,?_⟩
 ·exact cP (fM h.wrow A (fun g D E=>h.dwt g D E)) _ _ (fun e=>by have:=M pb e;omega)
 ·exact cP J _ _ (fun e=>by have:=a6 pb e;omega)
 ·exact cP (fM h.hrow A (fun g D E=>h.dth g E D)) _ _ (fun e=>by have:=O pb e;omega)
 ·exact fun g D E=>G wv (fun g e=>(M g e).2) (fun g D E=>h.dwt g E D) g E D
 ·exact G hv (fun g e=>(O g e).2) h.dth
theorem Pr.column (h:Pr pb w0 w a0 a1 a2 a3 wv tv hv ts tx col ch) (c:Int):Pr pb w0 (w.setCell ⟨pb,6,none⟩ (.int .i64 c)) a0 a1 a2 a3 wv tv hv ts tx c ch:=by
 have A:=World.ownsRow.lt h.wrow;have D:=World.ownsRow.lt h.trow;have y:=World.ownsRow.lt h.hrow;have M:=h.c0;have J:=h.c1;have O:=h.c2;have X:=h.c3;have G:=h.c4;have U:=h.c5;have S:=h.c6;have N:=h.c7;have E:=h.fz
 exact ⟨h.bel.setCell (p:=⟨pb,6,none⟩) (Nat.le_refl _) _,by simp [go_sem,M],by simp [go_sem,J],by simp [go_sem,O],by simp [go_sem,X],by simp [go_sem,G],by simp [go_sem,U],by simp [go_sem,S],by simp [go_sem,N],fun j=>by simpa using E j,
  cP h.wrow _ _ (fun e=>by have:=A pb e;omega),cP h.trow _ _ (fun e=>by have:=D pb e;omega),cP h.hrow _ _ (fun e=>by have:=y pb e;omega),h.dwt,h.dwh,h.dth⟩
theorem Pr.aside (h:Pr pb w0 w a0 a1 a2 a3 wv tv hv ts tx col ch) (k j:Nat) (x:Value) (M:pb<k) (E:wv.ownBlock≠some k) (G:tv.ownBlock≠some k) (D:hv.ownBlock≠some k):Pr pb w0 (w.setCell ⟨k,j,none⟩ x) a0 a1 a2 a3 wv tv hv ts tx col ch:=by
 have A:=rJ w ⟨k,j,none⟩ x;have y:some pb≠some k:=fun e=>by cases e;omega
 exact ⟨h.bel.setCell (p:=⟨k,j,none⟩) (by simp only;omega) _,A.cell h.c0 y,A.cell h.c1 y,A.cell h.c2 y,A.cell h.c3 y,A.cell h.c4 y,A.cell h.c5 y,A.cell h.c6 y,A.cell h.c7 y,fun J=>by simpa using h.fz J,
  cP h.wrow _ _ E,cP h.trow _ _ G,cP h.hrow _ _ D,h.dwt,h.dwh,h.dth⟩
theorem Pr.choice {g cap l:Nat} (h:Pr pb w0 w a0 a1 a2 a3 wv tv (.slice (some ⟨g,0,none⟩) l cap) ts tx col ch) (M:l=ch.length) (j:Nat) (x:Int) :
  Pr pb w0 (w.setCell ⟨g,j,none⟩ (.int .i64 x)) a0 a1 a2 a3 wv tv (.slice (some ⟨g,0,none⟩) l cap) ts tx col (ch.set j x):=by
 have E:=h.lt;have O:=World.ownsRow.lt h.hrow g rfl;subst M;have N:w.ownsRow (pb+1) 3 1 (.slice (some ⟨g,0,none⟩) ch.length cap) ch.length (ch.map (Value.int .i64)):=h.hrow;obtain ⟨J,A⟩:=World.ownsRow.stored N j (.int .i64 x);have y:some pb≠some g:=fun e=>by cases e;omega
 refine ⟨h.bel.setCell (p:=⟨g,j,none⟩) (by simp only;omega) _,A.cell h.c0 y,A.cell h.c1 y,A.cell h.c2 y,A.cell h.c3 y,A.cell h.c4 y,A.cell h.c5 y,A.cell h.c6 y,A.cell h.c7 y,mT E A (fun e=>y e.symm) h.fz,
  fM h.wrow A (fun k D G=>h.dwh k D G),fM h.trow A (fun k D G=>h.dth k D G),?_,h.dwt,h.dwh,h.dth⟩
 unfold OwI Ow;rw [List.map_set,List.length_set];exact J
end
theorem qW {P:Program} {ops:Array Oper} {o:Oper} {a:Act} {w:World} {K:Act->World->Prop} {Q:Exit->Act->World->Prop} {E:Prop} (M:o.guard=none) (s x:Operand) (t:TypeId)
  (y:o.op=Op.call { callee:=Callee.builtin Builtin.append,args:=#[s,x],argTypes:=#[t,t] }) (v D A:Value) (w':World) (G:a.eval s=v) (N:a.eval x=D)
  (h:(Builtin.append_ #[t,t] o.type #[v,D]).run P w=.ok A w') (J:K (a.put o.dst A) w'):if Region.wanted o (yielded ops a.tmps)=true then Oper.wp P o a w K Q else E:=by
 rw [if_pos (show Region.wanted o (yielded ops a.tmps)=true by simp [Region.wanted,M])];unfold Oper.wp;simp only [execOp,y,resolve,invoke,builtin,Sem.run_bind,Sem.run_pure,Result.andThen_ok,List.map_toArray,List.map_cons,List.map_nil,G,N,h];exact J
theorem aEu (w:World) (a b c d e:Value) (t:TypeId):∀ j u,[a,b,c,d,e][j]?=some u->(w.alloc (.cells #[a,b,c,d,e] t)).cell? ((⟨w.heap.size,0,none⟩:Addr).add j)=some u:=by
 intro j u h
 match j,h with
 | 0,h=>simp at h;subst h;simp [Addr.add]
 | 1,h=>simp at h;subst h;simp [Addr.add]
 | 2,h=>simp at h;subst h;simp [Addr.add]
 | 3,h=>simp at h;subst h;simp [Addr.add]
 | 4,h=>simp at h;subst h;simp [Addr.add]
theorem jI (pb:Nat) (w0 w:World) (a0 a1 a2 a3 wv tv hv:Value) (ts:List Tk) (tx:List Int) (col:Int) (ch:List Int) (h:Pr pb w0 w a0 a1 a2 a3 wv tv hv ts tx col ch) (t:Tk) (ht:∃ E u,t.v=.iface E u) (hl:ts.length<=1000000) :
  Calls prog 83 #[.pointer (some ⟨pb,4,none⟩),t.val] w fun e w'=>e=.returned (.tuple #[])/\(∃ wv',Pr pb w0 w' a0 a1 a2 a3 wv' tv hv (ts++[t]) tx col ch/\(wv'.ownBlock=wv.ownBlock\/∃ g,wv'.ownBlock=some g/\w.heap.size<=g))/\w.heap.size<=w'.heap.size/\∀ k,k<w.heap.size->k≠pb->wv.ownBlock≠some k->w'.heap[k]?=w.heap[k]?:=by
 obtain ⟨i0,hi,b8,b1,b7⟩:=info_parts aHg;obtain ⟨ra,G,b4,_,_⟩:=aU h.wrow;have c4:=h.c4;have f4:=h.fz 4;have b6:=h.lt;have b0:=World.ownsRow.lt h.wrow;obtain ⟨E,u,a4⟩:=ht;have HP:=bH h;have S:t.val=.agg #[.iface E u,.int .i64 t.ind,.bool t.fl,.int .i64 t.bw,.bool t.be]:=(by unfold Tk.val;rw [a4]);rw [S];have HC:Hid (t.cells=[.iface E u,.int .i64 t.ind,.bool t.fl,.int .i64 t.bw,.bool t.be]):=(by unfold Hid Tk.cells;rw [a4]);have U:=h.wrow;subst b4;have Z:w.grownBy (w.alloc (.cells #[.iface E u,.int .i64 t.ind,.bool t.fl,.int .i64 t.bw,.bool t.be] 154)) none:=gWA;have a6:(w.alloc (.cells #[.iface E u,.int .i64 t.ind,.bool t.fl,.int .i64 t.bw,.bool t.be] 154)).drew.ownsRow (pb+1) 154 5 (.slice ra ts.length G) ts.length (gE ts):=(fM U Z (by simp):World.ownsRow _ (pb+1) 154 5 (.slice ra ts.length G) ts.length (gE ts));obtain ⟨v1,w1,M,D,y,_,X⟩:=run_append_own_at (P:=prog) ((w.alloc (.cells #[.iface E u,.int .i64 t.ind,.bool t.fl,.int .i64 t.bw,.bool t.be] 154)).drew.alloc (.cells #[.iface E u,.int .i64 t.ind,.bool t.fl,.int .i64 t.bw,.bool t.be] 154)) (pb+1) 103 103 154 i0 (.agg #[.nilIface,.int .i64 0,.bool false,.int .i64 0,.bool false]) 5 48 underlying103 hi b8 b1 b7 rfl (by decide) (.slice ra ts.length G) ts.length (gE ts) (World.ownsRow.alloc a6 _) ⟨(w.alloc (.cells #[.iface E u,.int .i64 t.ind,.bool t.fl,.int .i64 t.bw,.bool t.be] 154)).drew.heap.size,0,none⟩ 1 1 [.iface E u,.int .i64 t.ind,.bool t.fl,.int .i64 t.bw,.bool t.be] rfl (aEu (w.alloc (.cells #[.iface E u,.int .i64 t.ind,.bool t.fl,.int .i64 t.bw,.bool t.be] 154)).drew _ _ _ _ _ _) (by intro u hu;simp at hu;rcases hu with rfl | rfl | rfl | rfl | rfl<;>rfl) (by unfold maxLen;omega) (by omega) (by simp;omega);have N:=M;simp only [World.alloc_drew,World.size_alloc,World.size_drew] at N;have A:w.grownBy ((w.alloc (.cells #[.iface E u,.int .i64 t.ind,.bool t.fl,.int .i64 t.bw,.bool t.be] 154)).drew.alloc (.cells #[.iface E u,.int .i64 t.ind,.bool t.fl,.int .i64 t.bw,.bool t.be] 154)) none:=aA Z ⟨rfl,rfl,rfl,by simp,fun i hi _=>Below.heap_alloc (w.alloc (.cells #[.iface E u,.int .i64 t.ind,.bool t.fl,.int .i64 t.bw,.bool t.be] 154)).drew _ _ hi⟩;have Y:(Value.slice ra ts.length G).ownBlock≠some pb:=fun e=>by have:=b0 pb e;omega
 have x4:=y.cell (A.cell c4 (by simp)) (fun e=>Y e.symm);have y4:w1.frozen? ⟨pb,4,none⟩=false:=(World.frozen?_of_block (y.block pb (by have:=A.size;omega) (fun e=>Y e.symm))).trans ((World.frozen?_of_block (A.block pb b6 (by simp))).trans f4);obtain ⟨va,J,b2,_,_⟩:=aU D;subst b2;have HO:=bH D;have HG:=bH y;have HA:=bH X;have O:=bH A;clear h S a4 M D y X Z A a6 U Y
 go_enter func83,ntmps83
 go_wp2
 go_region_law (refine qW rfl (.tmp 8) (.tmp 10) 103 rfl _ _ _ _ (by simp [Act.eval]) (by simp [Act.eval]) N ?_)
 all_goals
  go_simp
  go_wp2
  go_returns
  have a5:w1.ownsRow (pb+1) 154 5 (.slice va (ts.length+1) J) (ts++[t]).length (gE (ts++[t])):=by
   rw [pC,zS,HC.out,List.length_append];exact HO.out
  refine ⟨rfl,⟨.slice va (ts.length+1) J,?_,?_⟩,?_,?_⟩
  ·refine Pr.work (HP.out.K O.out) (wv':=.slice va (ts.length+1) J) HG.out a5 ?_;rcases HA.out with e | e
   ·exact .inl e
   ·exact .inr ⟨_,e,by simp⟩
  ·rcases HA.out with e | e
   ·exact .inl e
   ·exact .inr ⟨_,e,by simp;omega⟩
  ·have h1:=O.out.size;have h2:=HG.out.size;simp only [World.size_setCell];omega
  ·intro k hk a9 b5;rw [heap_setCell_other _ _ _ _ (fun e=>a9 (by simpa using e)),HG.out.block k (Nat.lt_of_lt_of_le hk O.out.size) (fun e=>b5 e.symm),O.out.block k hk (by simp)]
theorem aDZ (r:List Tk) (t:Tk) (j:Nat) (h:j<5):(gE (r++[t]))[r.length*5+j]?=t.cells[j]?:=by
 rw [pC,List.getElem?_append_right (by rw [pH];omega),pH,zS];congr 1;omega
theorem aGH (pb:Nat) (w0 w:World) (a0 a1 a2 a3 wv tv hv:Value) (tx:List Int) (col:Int) (ch:List Int) (h:Pr pb w0 w a0 a1 a2 a3 wv tv hv [] tx col ch) :
  Calls prog 85 #[.pointer (some ⟨pb,4,none⟩)] w fun e w'=>e=.returned (.tuple #[.agg #[.nilIface,.int .i64 0,.bool false,.int .i64 0,.bool false],.bool false])/\Pr pb w0 w' a0 a1 a2 a3 wv tv hv [] tx col ch:=by
 obtain ⟨M,A,y,_,_⟩:=aU h.wrow;have J:=h.c4;have G:=h.fz 4;have D:=h.lt;have E:=bH h;simp only [List.length_nil] at y;subst y;clear h
 go_enter func85,ntmps85
 go_wp2
 go_returns
 exact ⟨rfl,E.out.K (aA gWA gWA)⟩
theorem aIw (pb:Nat) (w0 w:World) (a0 a1 a2 a3 wv tv hv:Value) (ts:List Tk) (t:Tk) (tx:List Int) (col:Int) (ch:List Int) (h:Pr pb w0 w a0 a1 a2 a3 wv tv hv (ts++[t]) tx col ch) (ht:∃ O u,t.v=.iface O u) (hl:ts.length<=1000000) :
  Calls prog 85 #[.pointer (some ⟨pb,4,none⟩)] w fun e w'=>e=.returned (.tuple #[t.val,.bool true])/\∃ wv',Pr pb w0 w' a0 a1 a2 a3 wv' tv hv ts tx col ch:=by
 obtain ⟨O,u,E⟩:=ht;rcases h.wrow.2 with ⟨_,h0⟩ | ⟨g,cap,b2,U,M,hg,X,S,N,G⟩
 ·simp at h0
 subst U;have y:=h.wrow;have A:(ts++[t]).length=ts.length+1:=(by simp);have m0:=World.ownsRow.cellAt y (ts.length*5+0) (by rw [A];omega);have m1:=World.ownsRow.cellAt y (ts.length*5+1) (by rw [A];omega);have Y:=World.ownsRow.cellAt y (ts.length*5+2) (by rw [A];omega);have m3:=World.ownsRow.cellAt y (ts.length*5+3) (by rw [A];omega);have Z:=World.ownsRow.cellAt y (ts.length*5+4) (by rw [A];omega);rw [aDZ ts t _ (by omega)] at m0 m1 Y m3 Z;simp only [Tk.cells,List.getElem?_cons_zero,List.getElem?_cons_succ,E,Nat.add_zero] at m0 m1 Y m3 Z;have c4:=h.c4;have f4:=h.fz 4;have b3:=h.lt;have b5:=World.ownsRow.lt y g rfl;have HP:=bH h;rw [A] at c4 X;unfold maxLen at S;have D:=aB8 y (m:=ts.length) (by simp);have e1:(gE (ts++[t])).take (ts.length*5)=gE ts:=(by rw [pC,<- pH ts];exact List.take_left);rw [e1] at D;have J:=bH D;have HV:Hid (t.val=.agg #[.iface O u,.int .i64 t.ind,.bool t.fl,.int .i64 t.bw,.bool t.be]):=(by unfold Hid Tk.val;rw [E]);clear h y hg N G M D e1 E A
 go_enter func85,ntmps85
 go_wp2
 go_returns
 exact ⟨by rw [HV.out],.slice (some ⟨g,0,none⟩) ts.length cap,(Pr.work HP.out (World.grownBy.refl _ _) J.out (.inl rfl)).K (aA gWA gWA)⟩
def mS (v:Value) (ind:Int) (fl:Bool) (bw:Int) (be:Bool):Value:=.agg #[v,.int .i64 ind,.bool fl,.int .i64 bw,.bool be]
theorem vR (G h:TypeId) (u y:Value) (ind:Int) (fl:Bool) (A:Int) (E:Bool) (w:World) :
  Calls prog 118 #[mS (.iface G u) ind fl A E,.iface h y] w fun e w'=>e=.returned (mS (.iface h y) ind fl A E)/\w.grownBy w' none:=by
 unfold mS;have D:∀ (N J:Obj),w.grownBy ((w.alloc N).alloc J) none:=fun _ _=>aA gWA gWA;have M:=bH D;clear D
 go_enter func118,ntmps118
 go_wp2
 go_returns
 exact ⟨rfl,M.out _ _⟩
def brk (T:Tr) (ind:Int) (fl:Bool):Int × Bool:=
 match T with
 | .leaf p=>if p.k=2\/p.k=3 then (ind,!fl) else if p.k=4 then (ind,true) else if p.k=5 then (0,true) else (0,false)
 | _=>(0,false)
theorem aEq (B:Nat) (v:Value) (T:Tr) (ind:Int) (fl:Bool) (U:Int) (Y:Bool) (w X:World) (E:Rep (fun _=>False) B X v T) :
  Calls prog 86 #[mS v ind fl U Y] w fun e w'=>e=.returned (.tuple #[.int .i64 (brk T ind fl).1,.bool (brk T ind fl).2])/\w.grownBy w' none:=by
 unfold mS
 have S:(∃ t y,v=.iface t y/\brk T ind fl=(0,false)/\aR t 73 y (.agg #[])/\aR t 179 y (.agg #[])/\aR t 74 y (.agg #[])/\aR t 75 y (.agg #[]))\/
   (v=.iface 73 (.agg #[])/\brk T ind fl=(ind,!fl))\/(v=.iface 179 (.agg #[])/\brk T ind fl=(ind,!fl))\/(v=.iface 74 (.agg #[])/\brk T ind fl=(ind,true))\/(v=.iface 75 (.agg #[])/\brk T ind fl=(0,true)):=by
  cases T with
  | leaf p=>
    simp only [Rep] at E;rcases E with h | h | h | h | h | ⟨D,b,tv,h,_⟩
    ·have:=nN;exact .inl ⟨_,_,h.2,by simp [brk,h.1],this.2.2.1,this.2.2.2.1,this.2.2.2.2.1,this.2.2.2.2.2.1⟩
    ·exact .inr (.inl ⟨h.2,by simp [brk,h.1]⟩)
    ·exact .inr (.inr (.inl ⟨h.2,by simp [brk,h.1]⟩))
    ·exact .inr (.inr (.inr (.inl ⟨h.2,by simp [brk,h.1]⟩)))
    ·exact .inr (.inr (.inr (.inr ⟨h.2,by simp [brk,h.1]⟩)))
    ·have:=qG (.pointer (some ⟨b,0,none⟩));exact .inl ⟨_,_,h,by simp [brk,D],this.2.2.1,this.2.2.2.1,this.2.2.2.2.1,this.2.2.2.2.2.1⟩
  | un p x=>
    simp only [Rep] at E;obtain ⟨b,u,_,_,_,_,h | h⟩:=E
    ·have:=nS (.pointer (some ⟨b,0,none⟩));exact .inl ⟨_,_,h.2,rfl,this.2.2.1,this.2.2.2.1,this.2.2.2.2.1,this.2.2.2.2.2.1⟩
    ·have:=pW (.pointer (some ⟨b,0,none⟩));exact .inl ⟨_,_,h.2,rfl,this.2.2.1,this.2.2.2.1,this.2.2.2.2.1,this.2.2.2.2.2.1⟩
  | bin p x y=>
    simp only [Rep] at E;obtain ⟨b,u,Z,_,_,_,_,_,_,h | h⟩:=E
    ·have:=vA (.pointer (some ⟨b,0,none⟩));exact .inl ⟨_,_,h.2,rfl,this.2.2.1,this.2.2.2.1,this.2.2.2.2.1,this.2.2.2.2.2.1⟩
    ·have:=tZ (.pointer (some ⟨b,0,none⟩));exact .inl ⟨_,_,h.2,rfl,this.2.2.1,this.2.2.2.1,this.2.2.2.2.1,this.2.2.2.2.2.1⟩
 have G:Hid (∀ (o:Obj),w.grownBy (w.alloc o) none):=fun _=>gWA;rcases S with ⟨t,y,D,A,M,J,O,N⟩ | ⟨D,A⟩ | ⟨D,A⟩ | ⟨D,A⟩ | ⟨D,A⟩
 ·rw [A];subst D;clear E A
  go_enter func86,ntmps86
  go_wp2;go_ret2;exact ⟨rfl,G.out _⟩
 ·obtain ⟨f1,f2,M,J,O,N,_⟩:=qN;rw [A];subst D;clear E A;cases fl
  all_goals
   go_enter func86,ntmps86
   go_wp2
   go_quiet (fail)
   go_wp2;go_ret2;exact ⟨rfl,cO (G.out _) _⟩
 ·obtain ⟨f1,f2,M,J,O,N,_⟩:=qP;rw [A];subst D;clear E A;cases fl
  all_goals
   go_enter func86,ntmps86
   go_wp2
   go_quiet (fail)
   go_wp2;go_ret2;exact ⟨rfl,cO (G.out _) _⟩
 ·obtain ⟨f1,f2,M,J,O,N,_⟩:=tY;rw [A];subst D;clear E A
  go_enter func86,ntmps86
  go_wp2;go_ret2;exact ⟨rfl,G.out _⟩
 ·obtain ⟨f1,f2,M,J,O,N,_⟩:=xQ;rw [A];subst D;clear E A
  go_enter func86,ntmps86
  go_wp2;go_ret2;exact ⟨rfl,G.out _⟩
theorem aAJ (pb:Nat) (w0 w:World) (a0 a1 a2 a3 wv tv hv:Value) (ts:List Tk) (tx:List Int) (col:Int) (ch:List Int) (h:Pr pb w0 w a0 a1 a2 a3 wv tv hv ts tx col ch) (ind:Int) (c0:0<=ind) (d2:ind<=4000) (hl:tx.length<=600000000) :
  Calls prog 84 #[.pointer (some ⟨pb,0,none⟩),.int .i64 ind] w fun e w'=>e=.returned (.tuple #[])/\∃ tv',Pr pb w0 w' a0 a1 a2 a3 wv tv' hv ts (tx++List.replicate ind.toNat 32) ind ch:=by
 obtain ⟨i0,hi,b2,Z,b1⟩:=info_parts mF;have HP:=bH h;obtain ⟨m,hm⟩:∃ m:Nat,ind=(m:Int):=⟨ind.toNat,by omega⟩;subst hm;rw [Int.toNat_natCast];clear h
 go_enter func84,ntmps84
 go_wp2
 go_loopw [5] (fun i wr=>∃ (k:Nat) (tv':Value),k<=m/\i=.int .i64 k/\Pr pb w0 wr a0 a1 a2 a3 wv tv' hv ts (tx++List.replicate k 32) col ch) (fun i _=>m - (intOf i).toNat)
 case atStart=>exact ⟨0,tv,Nat.zero_le _,rfl,by simpa using HP.out⟩
 case round=>
  obtain ⟨k,tv',hk,rfl,D⟩:=hrel;have HQ:=bH D;have c5:=D.c5;have f5:=D.fz 5;have c6:=D.c6;have f6:=D.fz 6;have b0:=D.lt;have a4:=World.ownsRow.lt D.trow
  by_cases b9:k<m
  ·obtain ⟨ta,b4,a5,_,_⟩:=aU D.trow;have b7:(tx++List.replicate k 32).length<=600004000:=(by simp;omega);have S:tx++List.replicate (k+1) 32=(tx++List.replicate k 32)++[32]:=(by rw [List.replicate_succ',List.append_assoc]);have A:wr.grownBy (wr.alloc (.cells #[.int .u8 32] 5)) none:=gWA;have N:tv'.ownBlock≠some pb:=fun e=>by have:=a4 pb e;omega
   have O:=bH N;have J:wr.ownsRow (pb+1) 5 1 tv' (tx++List.replicate k 32).length ((tx++List.replicate k 32).map (Value.int .u8)):=D.trow;have M:=bH J;have a8:=A.cell c5 (by simp);have a6:(wr.alloc (.cells #[.int .u8 32] 5)).frozen? ⟨pb,5,none⟩=false:=(World.frozen?_of_block (A.block pb b0 (by simp))).trans f5;have a9:=bH A;have b3:=bH S;subst a5;clear N D S c6 f6 J A;generalize hX:tx++List.replicate k 32=X at *;clear hX
   go_wp2_with (at_builtin;refine wpList_append_own_at _ rfl _ _ 22 rfl (pb+1) 5 i0 (.int .u8 0) 1 1 underlying22 hi b2 Z b1 rfl (by decide) _ _ _ rfl (World.ownsRow.alloc M.out _) ⟨wr.heap.size,0,none⟩ 1 1 [.int .u8 32] rfl rfl (pD _ _ _) (by intro u hu;simp at hu;subst hu;rfl) (by unfold maxLen;omega) (by omega) (by simp;omega) ?_;intro v1 w1 E y _ U;have x5:=y.cell a8 (fun e=>O.out e.symm);have y5:w1.frozen? ⟨pb,5,none⟩=false:=(World.frozen?_of_block (y.block pb (by simp;omega) (fun e=>O.out e.symm))).trans a6;obtain ⟨va,G,a7,_,_⟩:=aU E;subst a7)
   go_roundw
   case rel=>
    refine ⟨k+1,.slice va (X.length+1) G,by omega,by go_num,?_⟩;rw [b3.out];refine Pr.X (HQ.out.K a9.out) (tv':=.slice va (X.length+1) G) y ?_ ?_
    ·unfold OwB Ow;rw [List.map_append,List.length_append];exact E
    ·rcases U with e | e
     ·exact .inl e
     ·exact .inr ⟨_,e,by simp⟩
   case measure=>simp [intOf];omega
  ·have Y:k=m:=(by omega);subst Y;clear D;go_wp2
   go_returns
   exact ⟨rfl,tv',HQ.out.column _⟩
theorem aDS (pb:Nat) (w0 w:World) (a0 a1:Value) (nb:Nat) (a3 wv tv:Value) (g cap l:Nat) (ts:List Tk) (tx:List Int) (col:Int) (ch:List Int) (h:Pr pb w0 w a0 a1 (.map (some nb)) a3 wv tv (.slice (some ⟨g,0,none⟩) l cap) ts tx col ch)
  (b:Nat) (fl:Bool) (j:Nat) (J:∀ W,w.grownBy W none->(Instr.lookup 102 (.map (some nb)) (.pointer (some ⟨b,0,none⟩)) false).run prog W=.ok (.int .i64 (j:Int)) W) (N:l=ch.length) (U:j<ch.length) (S:ch.length<=1000000) :
  Calls prog 120 #[.pointer (some ⟨pb,0,none⟩),.pointer (some ⟨b,0,none⟩),.bool fl] w fun e w'=>e=.returned (.tuple #[])/\Pr pb w0 w' a0 a1 (.map (some nb)) a3 wv tv (.slice (some ⟨g,0,none⟩) l cap) ts tx col (ch.set j (if fl then 1 else 2))/\w'.heap.size=w.heap.size/\∀ k,k≠g->w'.heap[k]?=w.heap[k]?:=by
 have X:=h.c2;have Y:=h.c7;have hD:=J w.drew ⟨rfl,rfl,rfl,Nat.le_refl _,fun _ _ _=>rfl⟩;have Z:=bH h;obtain ⟨x,M⟩:∃ x,ch[j]?=some x:=⟨_,List.getElem?_eq_getElem U⟩;subst N;have A:OwI (pb+1) w (.slice (some ⟨g,0,none⟩) ch.length cap) ch:=h.hrow;have E:w.ownsRow (pb+1) 3 1 (.slice (some ⟨g,0,none⟩) ch.length cap) ch.length (ch.map (Value.int .i64)):=A;have G:=World.ownsRow.cellAt E j (by omega);rw [List.getElem?_map,M] at G;simp only [Option.map_some] at G;have hf:=World.ownsRow.frozenAt E j;have y:Hid (∀ x,Pr pb w0 (w.setCell ⟨g,j,none⟩ (.int .i64 x)).drew a0 a1 (.map (some nb)) a3 wv tv (.slice (some ⟨g,0,none⟩) ch.length cap) ts tx col (ch.set j x)):=fun x=>(h.choice rfl j x).K ⟨rfl,rfl,rfl,Nat.le_refl _,fun _ _ _=>rfl⟩;have O:IntKind.i64.wrap (j:Int)=(j:Int):=(by simp [IntKind.wrap,IntKind.bits,IntKind.signed];omega);clear h A E M J;cases fl
 ·go_enter func120,ntmps120
  go_wp2
  go_region
  all_goals
   go_wp2
   go_returns
   exact ⟨rfl,y.out 2,by simp,fun k D=>heap_setCell_other w ⟨g,j,none⟩ k _ (fun e=>D (by simpa using e))⟩
 ·go_enter func120,ntmps120
  go_wp2
  go_region
  all_goals
   go_wp2
   go_returns
   exact ⟨rfl,y.out 1,by simp,fun k D=>heap_setCell_other w ⟨g,j,none⟩ k _ (fun e=>D (by simpa using e))⟩
theorem aCr (y:Nat) (width g h:Int) (w:World) (A:w.cell? ⟨y,0,none⟩=some (.int .i64 width)) :
  Calls prog 46 #[.int .i64 g,.int .i64 h,.pointer (some ⟨y,0,none⟩)] w fun e w'=>e=.returned (.bool (decide (h<=width)))/\w=w':=by
 go_enter func46,ntmps46
 go_wp2;go_ret;exact ⟨rfl,rfl⟩
theorem aBO (args:Array Value) (W:World):(callFunc 46 args).run prog W=.ok (.enter 46 args) W:=by kernel_rfl
def pV (fw col bw:Int) (d:Int->Bool):Bool:=if fw = -1 then false else d (col+fw+bw)
theorem aDM (pb:Nat) (w0 w:World) (fb nb O:Nat) (a1 cap:Value) (wv tv hv:Value) (ts:List Tk) (tx:List Int) (col:Int) (ch:List Int) (h:Pr pb w0 w (.map (some fb)) a1 (.map (some nb)) (.func (.func O) #[] #[cap]) wv tv hv ts tx col ch)
  (b:Nat) (A:Int) (N:Bool) (y:Int) (Y:∀ W,w.grownBy W none->(Instr.lookup 100 (.map (some fb)) (.iface 185 (.pointer (some ⟨b,0,none⟩))) false).run prog W=.ok (.int .i64 y) W) (j:Nat)
  (X:∀ W,w.grownBy W none->(Instr.lookup 102 (.map (some nb)) (.pointer (some ⟨b,0,none⟩)) false).run prog W=.ok (.int .i64 (j:Int)) W) (d:Int->Bool)
  (S:∀ W,w.grownBy W none->Calls prog O #[.int .i64 (j:Int),.int .i64 (col+y+A),cap] W fun e w'=>e=.returned (.bool (d (col+y+A)))/\W=w')
  (hE:∀ (args:Array Value) (W:World),(callFunc O args).run prog W=.ok (.enter O args) W) (a8 : -1<=y/\y<=1000000) (a7 : -1000000<=col/\col<=1000000) (b1 : -1000000<=A/\A<=1000000) :
  Calls prog 119 #[.pointer (some ⟨pb,0,none⟩),.pointer (some ⟨b,0,none⟩),.agg #[.int .i64 A,.bool N]] w fun e w'=>e=.returned (.bool (pV y col A d))/\w.grownBy w' none:=by
 have D:w.grownBy (w.alloc (.cells #[.int .i64 A,.bool N] 152)) none:=gWA;have G:∀ q,w.grownBy ((w.alloc (.cells #[.int .i64 A,.bool N] 152)).drewN q) none:=fun q=>cO D q;have M:=bH G;have c0:=D.cell h.c0 (by simp);have c2:=D.cell h.c2 (by simp);have c3:=D.cell h.c3 (by simp);have c6:=D.cell h.c6 (by simp);have a9:=h.lt;have hA:=Y _ D;have b0:∀ q,_:=fun q=>X _ (G q)
 have J:∀ q,Calls prog O #[.int .i64 (j:Int),.int .i64 (col+y+A),cap] ((w.alloc (.cells #[.int .i64 A,.bool N] 152)).drewN q) fun e w'=>e=.returned (.bool (d (col+y+A)))/\w'=(w.alloc (.cells #[.int .i64 A,.bool N] 152)).drewN q:=
  fun q=>(S _ (G q)).mono fun e w' h=>⟨h.1,h.2.symm⟩
 have Z:=bH J
 by_cases E:y = -1
 ·have U:Hid (pV y col A d=false):=(by unfold Hid pV;rw [if_pos E]);have e1:(y != -1)=false:=(by rw [E];rfl);clear h Y X S D G J E
  go_enter func119,ntmps119
  go_wp2_with fail
  go_quiet (fail)
  go_wp2;go_ret;exact ⟨by rw [U.out];rfl,M.out _⟩
 ·have U:Hid (pV y col A d=d (col+y+A)):=(by unfold Hid pV;rw [if_neg E]);have e1:(y != -1)=true:=(by simpa using E);have a4:IntKind.i64.wrap (col+y)=col+y:=(by simp [IntKind.wrap,IntKind.bits,IntKind.signed];omega);have a6:IntKind.i64.wrap (col+y+A)=col+y+A:=(by simp [IntKind.wrap,IntKind.bits,IntKind.signed];omega);clear h Y X S D G J E
  go_enter func119,ntmps119
  go_wp2_with fail
  go_quiet (refine Calls.quiet_of_same (Z.out _))
  go_wp2;go_ret;exact ⟨by rw [U.out];rfl,M.out _⟩
end Go.Proofs.YtmfehflibkokbaaGreatDoor
