import Derived.Lib.SlBytesConst
import Derived.Test.YtckcaefnokeodaaGreatDoorMAC
import Derived.Test.YtckcaefnokeodaaGreatDoorMAI
set_option maxHeartbeats 16000000
set_option maxRecDepth 100000
namespace Go.Proofs.YtckcaefnokeodaaGreatDoor
open Go.Proofs.Tryz List World
section
open Go.RowKit Go.Shelf
attribute [local go_sem] Oper.semAt_some
theorem aCQ (p:Int) (w):Calls prog 133 #[.int .i32 p] w fun e G=>e=.returned (.bool (!lnE p))/\w=G:=by
 by_cases A:p=10
 .subst A
  go_enter func133,ntmps133
  go_wp2;go_ret;exact ⟨rfl,rfl⟩
 .have I:(p != 10)=true:=by simpa using A
  by_cases D:p=13
  .subst D
   go_enter func133,ntmps133
   go_wp2;go_ret;exact ⟨rfl,rfl⟩
  .have H:(p != 13)=true:=by simpa using D
   by_cases E:p=8232
   .subst E
    go_enter func133,ntmps133
    go_wp2;go_ret;exact ⟨rfl,rfl⟩
   .have M:(p != 8232)=true:=by simpa using E
    by_cases h:p=8233
    .subst h
     go_enter func133,ntmps133
     go_wp2;go_ret;exact ⟨rfl,rfl⟩
    .have F:Hid (lnE p=false):=(by unfold Hid lnE;simp [A,D,E,h]);have J:(p != 8233)=true:=by simpa using h
     go_enter func133,ntmps133
     go_wp2;go_ret;exact ⟨by rw [F.out];first | rfl | simp [h],rfl⟩
def okP (b:Bool) (p:Int):Bool:=!decide (p = -1)&&(!lnE p||(b&&decide (p=10)))
def bH (c:Cm):Bool:=(lB c.t).all (fun x=>okP c.b x.2)&&(!c.b || !jG c.t)
theorem aDQ (n:Nat) (hn:3<=n) (v) (c:Cm) (m:Int) (w:World) (hv:RdB w.heap.size w v c.t) (b8:Bys c.t) (hm:c.t.length<=1048576) (S:Sl v c.t.length) (hT:Tab w) (hM:w.cell? ⟨1,0,none⟩=some (.int .i64 m)) :
  CallsIn Fence.wide n prog 95 #[.agg #[.bool c.b,v]] w fun e w'=>e=.returned (.bool (bH c))/\Below w.heap.size w w':=by
 have h1:1<=n:=(by omega);have d5:=S;obtain ⟨a,F,rfl,g5,g4⟩:=d5;have a8:=hT.pos;refine callsIn_of_wp_marks func95 rfl trivial ?_ rfl;simp only [ntmps95,size_toArray,length_cons,length_nil,Nat.reduceAdd,Nat.reduceSub,Array.replicate_succ,Array.replicate_zero,push_toArray,append_toArray,nil_append,cons_append]
 gi_wp2_with fail
 refine ⟨trivial,(yV (n - 1) _ _ _ _).mono ?_⟩;rintro e w' ⟨rfl,rfl⟩
 gi_wp2_with fail
 obtain ⟨W0,H⟩:∃ W0,W0=((w.alloc (.cells #[.bool c.b,.slice a c.t.length F] 96)).alloc (.cells #[.bool false] 4)).alloc (.cells #[.slice a c.t.length F] 22):=⟨_,rfl⟩;have b3:Below w.heap.size w W0:=(by rw [H];exact (((Below.refl _ w).alloc (Nat.le_refl _) _).alloc (by simp) _).alloc (by simp;omega) _);have d0:W0.cell? ⟨w.heap.size,0,none⟩=some (.bool c.b):=(by rw [H];simp [go_sem]);have d1:W0.cell? ⟨w.heap.size,1,none⟩=some (.slice a c.t.length F):=(by rw [H];simp [go_sem]);have d2:W0.cell? ⟨w.heap.size+1,0,none⟩=some (.bool false):=(by rw [H];simp [go_sem]);have d3:W0.frozen? ⟨w.heap.size+1,0,none⟩=false:=by rw [H];simp [go_sem]
 have bx:Boxed W0 (w.heap.size+1+1) 22 (.slice a c.t.length F):=by
  have:=Boxed.new ((w.alloc (.cells #[.bool c.b,.slice a c.t.length F] 96)).alloc (.cells #[.bool false] 4)) 22 (.slice a c.t.length F);simp only [size_alloc] at this;rw [H];exact this
 have f3:W0.heap.size=w.heap.size+3:=(by rw [H];simp);rw [<- H];clear H
 refine wpIn_rangeFunc_ownF rfl h1 (gf:=152) (lb:=#[.pointer (some ⟨w.heap.size+1+1,0,none⟩)]) rfl trivial (enters_of func152 (by kernel_rfl) rfl)
  (sE (n - 1) (by omega) (w.heap.size+1+1) w.heap.size _ c.t _ b8 (by omega) S bx (by omega) (hv.below b3) (hT.below b3 a8) a8) aLK (aLI (by omega) (by omega)) (Below.refl _ _) (fun _=>rfl)
  (fun (G:List (Int × Int)) W=>((∀ x∈G,okP c.b x.2=true)/\W.cell? ⟨w.heap.size,0,none⟩=some (.bool c.b)/\W.cell? ⟨w.heap.size,1,none⟩=some (.slice a c.t.length F)/\W.cell? ⟨w.heap.size+1,0,none⟩=some (.bool false)/\W.frozen? ⟨w.heap.size+1,0,none⟩=false)/\Below w.heap.size w W)
  (fun k (G:List (Int × Int)) W=>(k=.ret/\(∃ (q:List (Int × Int)) (x:Int × Int),G=q++[x]/\okP c.b x.2=false)/\W.cell? ⟨w.heap.size+1,0,none⟩=some (.bool false))/\Below w.heap.size w W)
  (OwnFrom.and (Own.from (fun s A B c6 S hg hr=>⟨S.1,cell_kept S.2.1 hg hr,cell_kept S.2.2.1 hg hr,cell_kept S.2.2.2.1 hg hr,(frozen_kept S.2.2.2.1 hg hr).trans S.2.2.2.2⟩) _) (ownFrom_below (Nat.le_refl _) (by omega)))
  (fun c=>OwnFrom.and (Own.from (fun s A B c6 S hg hr=>⟨S.1,S.2.1,cell_kept S.2.2 hg hr⟩) _) (ownFrom_below (Nat.le_refl _) (by omega)))
  ⟨⟨by simp,d0,d1,d2,d3⟩,b3⟩
  (fun x=>{ tmps:=#[.agg #[.bool c.b,.slice a c.t.length F],.pointer (some ⟨w.heap.size,0,none⟩),.pointer (some ⟨w.heap.size+1,0,none⟩),undef,.int .i32 x.2,.pointer (some ⟨w.heap.size,1,none⟩),.slice a c.t.length F,.func (.func 152) #[] #[.pointer (some ⟨w.heap.size+1+1,0,none⟩)],.int .i64 x.1,.int .i32 x.2,undef,undef,undef,undef,undef,undef,undef,undef,undef,undef,undef,undef,undef,undef,undef,undef,undef,undef,undef,undef,undef,undef,undef,undef,undef,undef,undef],defers:=[] }) ?assign ?body ?done ?stop
 case assign=>
  intro l x W K hK
  gi_wp2
  exact hK
 case body=>
  rintro l G x W ⟨⟨J,M,b2,E,a5⟩,Y⟩ g1;have HL:=aB (fun w=>aCQ x.2 w);have a9:=M
  have O:okP c.b x.2=true->Hid (∀ y∈G++[x],okP c.b y.2=true):=fun h y hy=>by
   rcases mem_append.1 hy with h' | h'
   .exact J y h'
   .simp at h';subst h';exact h
  by_cases hx:x.2 = -1
  .have HX:Hid (okP c.b x.2=false):=(by unfold Hid okP;simp [hx]);have d8:(x.2 == -1)=true:=(by simp [hx]);clear O hx
   gi_wp2
   refine ⟨trivial,?_⟩
   gi_wp2
   exact ⟨KeepsOthers.setCell _ _ _,⟨rfl,⟨G,x,rfl,HX.out⟩,cell?_setCell_same' _ _ _ (by rw [E];rfl)⟩,Y.setCell (p:=⟨w.heap.size+1,0,none⟩) (by simp) _⟩
  .have d8:(x.2 == -1)=false:=(by simpa using hx);cases hl:lnE x.2 with
   | false=>
     rw [hl] at HL;have HY:=O (by unfold okP;rw [hl];simp [hx]);clear O hx hl
     gi_wp2_with fail
     refine ⟨trivial,fun h=>(by cases h),(CallsIn.inRound l (callsIn_wide.2 (HL.out _))).mono ?_⟩;rintro e W1 ⟨rfl,rfl⟩
     gi_wp2
     exact ⟨KeepsOthers.refl _,⟨Below.refl _ _,rfl⟩,⟨HY.out,a9,b2,E,a5⟩,Y⟩
   | true=>
     rw [hl] at HL
     by_cases Z:c.b=true
     .by_cases a0:x.2=10
      .have HY:=O (by unfold okP;rw [Z];simp [a0]);have c4:(x.2==10)=true:=(by simp [a0]);rw [Z] at M;clear O hx hl Z a0
       gi_wp2_with fail
       refine ⟨trivial,fun h=>(by cases h),(CallsIn.inRound l (callsIn_wide.2 (HL.out _))).mono ?_⟩;rintro e W1 ⟨rfl,rfl⟩
       gi_wp2
       exact ⟨KeepsOthers.refl _,⟨Below.refl _ _,rfl⟩,⟨HY.out,a9,b2,E,a5⟩,Y⟩
      .have HX:Hid (okP c.b x.2=false):=(by unfold Hid okP;rw [hl];simp [a0]);have c4:(x.2==10)=false:=(by simpa using a0);rw [Z] at M;clear O hx hl Z a0
       gi_wp2_with fail
       refine ⟨trivial,fun h=>(by cases h),(CallsIn.inRound l (callsIn_wide.2 (HL.out _))).mono ?_⟩;rintro e W1 ⟨rfl,rfl⟩
       gi_wp2
       exact ⟨KeepsOthers.setCell _ _ _,⟨rfl,⟨G,x,rfl,HX.out⟩,cell?_setCell_same' _ _ _ (by rw [E];rfl)⟩,Y.setCell (p:=⟨w.heap.size+1,0,none⟩) (by simp) _⟩
     .have b1:c.b=false:=(by simpa using Z);have HX:Hid (okP c.b x.2=false):=(by unfold Hid okP;rw [hl,b1];simp);rw [b1] at M;clear O hx hl Z b1
      gi_wp2_with fail
      refine ⟨trivial,fun h=>(by cases h),(CallsIn.inRound l (callsIn_wide.2 (HL.out _))).mono ?_⟩;rintro e W1 ⟨rfl,rfl⟩
      gi_wp2
      exact ⟨KeepsOthers.setCell _ _ _,⟨rfl,⟨G,x,rfl,HX.out⟩,cell?_setCell_same' _ _ _ (by rw [E];rfl)⟩,Y.setCell (p:=⟨w.heap.size+1,0,none⟩) (by simp) _⟩
 case done=>
  rintro D ys W hD rfl ⟨⟨J,M,b2,E,a5⟩,Y⟩ hK;have I:(lB c.t).all (fun x=>okP c.b x.2)=true:=all_eq_true.2 J
  by_cases Z:c.b=false
  .have HW:Hid (bH c=true):=(by unfold Hid bH;rw [I,Z];rfl);rw [Z] at M;clear J I Z
   gi_wp2
   refine ⟨trivial,?_⟩
   gi_wp2
   have N:=(KeepsOthers.setCell W ⟨w.heap.size+1,0,none⟩ (.bool true)).same D _ hK rfl;refine ⟨by simp,.inl ⟨_,_,rfl,run_takeDeferred N,?_⟩⟩;have a3:=cell_kept (cell?_setCell_same' W ⟨w.heap.size+1,0,none⟩ (.bool true) (by rw [E];rfl)) (grownBy_putObj' _ D (.deferred none)) (fun r e=>by cases e;exact ⟨_,N,rfl⟩);refine ⟨.bool true,?_,by rw [HW.out],(Y.setCell (p:=⟨w.heap.size+1,0,none⟩) (by simp) _).trans (belowK_b (w:=w) (Nat.le_refl _) _ D _ _ (by omega) N rfl rfl)⟩;simp [results,Tryz.f95,go_sem,a3]
  .have b0:c.b=true:=(by simpa using Z);have HW:Hid (bH c = !jG c.t):=(by unfold Hid bH;rw [I,b0];rfl);rw [b0] at M;clear J I Z b0;have c7:=Lib.run_convert_bytes_const (P:=prog) W 22 5 #[.int .u8 42,.int .u8 47] 2 2 underlying22 underlying5;have gW:W.grownBy (W.alloc (.cells #[.int .u8 42,.int .u8 47] 5 (2,3))) none:=gWA;have c2:=Y.size
   have a1:(W.alloc (.cells #[.int .u8 42,.int .u8 47] 5 (2,3))).heap[W.heap.size]?=some (.cells #[.int .u8 42,.int .u8 47] 5 (2,3)):=by
    show (W.heap.push _)[W.heap.size]?=_;simp
   have f1:=aB (aDL (.slice a c.t.length F) c.t W.heap.size m (W.alloc (.cells #[.int .u8 42,.int .u8 47] 5 (2,3))) (((hv.below Y).wideC c2).K gW |>.wideC gW.size) S b8 hm ((cell_of_row _ _ 0 #[.int .u8 42,.int .u8 47] 5 (2,3) a1).trans rfl) ((cell_of_row _ _ 1 #[.int .u8 42,.int .u8 47] 5 (2,3) a1).trans rfl)
    (gW.cell ((cell?_of_block (Y.block 1 (block_lt_of_cell? w _ hM))).trans hM) (by simp)) 2)
   have d4:=(KeepsOthers.alloc W (.cells #[.int .u8 42,.int .u8 47] 5 (2,3))).same D _ hK rfl;have d9:=gW.cell E (by simp);have f8:=(iI gW E a5).2;have c0:Hid (Below w.heap.size w (W.alloc (.cells #[.int .u8 42,.int .u8 47] 5 (2,3)))):=Y.alloc c2 _;clear gW a1
   gi_wp2_with fail
   refine ⟨trivial,(callsIn_wide.2 f1.out).mono ?_⟩;rintro e W2 ⟨rfl,q,rfl⟩;have d7:((W.alloc (.cells #[.int .u8 42,.int .u8 47] 5 (2,3))).drewN q).cell? ⟨w.heap.size+1,0,none⟩=some (.bool false):=d9;have f0:((W.alloc (.cells #[.int .u8 42,.int .u8 47] 5 (2,3))).drewN q).heap[D]?=some (.deferred (some [])):=d4;have d6:Hid (Below w.heap.size w ((W.alloc (.cells #[.int .u8 42,.int .u8 47] 5 (2,3))).drewN q)):=c0.out.grown (cA (grownBy.refl _ none) q) c0.out.size (fun k e=>by cases e);generalize jG c.t=b at *
   gi_wp2
   have N:=(KeepsOthers.setCell ((W.alloc (.cells #[.int .u8 42,.int .u8 47] 5 (2,3))).drewN q) ⟨w.heap.size+1,0,none⟩ (.bool (!b))).same D _ f0 rfl;refine ⟨by simp,.inl ⟨_,_,rfl,run_takeDeferred N,?_⟩⟩;have a3:=cell_kept (cell?_setCell_same' ((W.alloc (.cells #[.int .u8 42,.int .u8 47] 5 (2,3))).drewN q) ⟨w.heap.size+1,0,none⟩ (.bool (!b)) (by rw [d7];rfl)) (grownBy_putObj' _ D (.deferred none)) (fun r e=>by cases e;exact ⟨_,N,rfl⟩);refine ⟨.bool (!b),?_,by rw [HW.out],(d6.out.setCell (p:=⟨w.heap.size+1,0,none⟩) (by simp) _).trans (belowK_b (w:=w) (Nat.le_refl _) _ D _ _ (by omega) N rfl rfl)⟩;simp [results,Tryz.f95,go_sem,a3]
 case stop=>
  rintro D k G W hD c1 ⟨⟨rfl,⟨q,x,hq,hx⟩,E⟩,Y⟩ hK
  have HW:Hid (bH c=false):=by
   unfold Hid bH;rw [Bool.and_eq_false_iff];left;rw [all_eq_false];refine ⟨x,?_,by rw [hx];simp⟩;obtain ⟨t,ht⟩:=c1;rw [<- ht,hq];simp
  gi_wp2
  refine ⟨by simp,.inl ⟨_,_,rfl,run_takeDeferred hK,?_⟩⟩;have a3:=cell_kept E (grownBy_putObj' _ D (.deferred none)) (fun r e=>by cases e;exact ⟨_,hK,rfl⟩);refine ⟨.bool false,?_,by rw [HW.out],Y.trans (belowK_b (w:=w) (Nat.le_refl _) W D _ _ (by omega) hK rfl rfl)⟩;simp [results,Tryz.f95,go_sem,a3]
theorem aBL (v) (c:Cm) (m:Int) (w:World) (E:RdB w.heap.size w v c.t) (A:Bys c.t) (G:c.t.length<=1048576) (F:Sl v c.t.length) (I:Tab w) (D:w.cell? ⟨1,0,none⟩=some (.int .i64 m)) :
  Calls prog 95 #[.agg #[.bool c.b,v]] w fun e H=>e=.returned (.bool (bH c))/\w.grownBy H none:=
 (callsIn_wide.1 (aDQ 3 (Nat.le_refl _) v c m w E A G F I D)).mono fun _ _ h=>⟨h.1,aC h.2⟩
end
open Go.RowKit
theorem yK:∀ (A:List Cm) (k:Nat) (D:k<A.length),bY (A.take (k+1))=bY (A.take k)+A[k].t.length
 | c::A,0,_=>by simp [bY]
 | c::A,k+1,h=>by
   have:=yK A k (by simpa using h);simp only [take_succ_cons,bY,this,getElem_cons_succ];omega
theorem aDB:∀ (h:List Cm) (k:Nat),bY (h.take k)<=bY h
 | [],k=>by simp
 | c::h,0=>by have:=bN (c::h);simpa [bY] using this
 | c::h,k+1=>by have:=aDB h k;simp only [take_succ_cons,bY];omega
theorem uU (v h) (w:World) (F:RdC w.heap.size w v h) (hn:h.length<=100000000) (hs:bY h<=100000000) :
  Calls prog 75 #[v] w fun e Y=>e=.returned (.tuple #[.int .i64 (bY h),.int .i64 h.length])/\w.grownBy Y none:=by
 obtain ⟨a,S,H,_⟩:=id F;have O:=aB F;subst H;clear F
 go_enter func75,ntmps75
 go_wp2
 go_loopw [4,5] (fun n i wr=>∃ k:Nat,k<=h.length/\i=.int .i64 k/\n=.int .i64 (bY (h.take k))/\w.grownBy wr none) (fun _ i _=>h.length - (intOf i).toNat)
 case atStart=>exact ⟨0,Nat.zero_le _,rfl,by simp [bY],grownBy.refl _ _⟩
 case round=>
  obtain ⟨k,hk,rfl,rfl,A⟩:=hrel
  by_cases D:k<h.length
  .obtain ⟨b,Z,N,tv,I,hb,E⟩:=(O.out.K A).at k D;cases I;have z0:=E.k;have z1:=E.t;obtain ⟨ta,M,G,_,_⟩:=E.sl;have J:=aB (yK h k D);have h1:=aDB h (k+1);rw [J.out] at h1;have h2:=bN (h.take k);subst G;clear E;generalize h[k]=p at *;generalize bY (h.take k)=T at *;go_wp2
   go_roundw
   case rel=>exact ⟨k+1,by omega,by go_num,by rw [J.out],A⟩
   case measure=>simp [intOf];omega
  .have ht:h.take k=h:=(by rw [show k=h.length by omega,take_length]);rw [ht];go_wp2;go_ret2;exact ⟨rfl,A⟩
theorem aB7:∀ (A:List Nod) (k:Nat) (D:k<A.length),fU (A.take (k+1))=fU (A.take k)+nr A[k]
 | n::A,0,_=>by simp [fU]
 | n::A,k+1,h=>by
   have:=aB7 A k (by simpa using h);simp only [take_succ_cons,fU,this,getElem_cons_succ];omega
theorem aGk:∀ (h:List Nod) (k:Nat),fU (h.take k)<=fU h
 | [],k=>by simp
 | n::h,0=>by have:=iR (n::h);simpa [fU] using this
 | n::h,k+1=>by have:=aGk h k;simp only [take_succ_cons,fU];omega
theorem aB3:∀ (A:List Nod) (k:Nat) (D:k<A.length),gK (A.take (k+1))=gK (A.take k)+nc A[k]
 | n::A,0,_=>by simp [gK]
 | n::A,k+1,h=>by
   have:=aB3 A k (by simpa using h);simp only [take_succ_cons,gK,this,getElem_cons_succ];omega
theorem aG4:∀ (h:List Nod) (k:Nat),gK (h.take k)<=gK h
 | [],k=>by simp
 | n::h,0=>by have:=iH (n::h);simpa [gK] using this
 | n::h,k+1=>by have:=aG4 h k;simp only [take_succ_cons,gK];omega
theorem aEL (nv tv t) (w:World) (hv:eV w.heap.size w nv tv t) (hR:fU t.N+bY t.tail<=100000000) (hK:gK t.N+t.tail.length<=100000000) (hn:t.N.length<=100000000) :
  Calls prog 37 #[.agg #[nv,tv]] w fun e h=>e=.returned (.bool (decide (fU t.N+bY t.tail<=100000)&&decide (gK t.N+t.tail.length<=4000)))/\w.grownBy h none:=by
 obtain ⟨J,O⟩:=hv;obtain ⟨na,H,b2,_⟩:=id J;obtain ⟨ta,a2,b8,_⟩:=id O;have n1:=iR t.N;have n2:=iH t.N;have n3:=bN t.tail;have b1:Hid (∀ h,w.grownBy h none->Calls prog 75 #[tv] h fun e E=>e=.returned (.tuple #[.int .i64 (bY t.tail),.int .i64 t.tail.length])/\h.grownBy E none):=fun h g=>uU tv t.tail h ((O.K g).wide g.size) (by omega) (by omega);have HV:=aB J;subst b2 b8;clear J O
 go_enter func37,ntmps37
 go_wp2_with fail
 refine (b1.out _ gWA).mono ?_;rintro e w1 ⟨rfl,g1⟩;have c0:w1.cell? ⟨w.heap.size,0,none⟩=some (.slice na t.N.length H):=g1.cell (by simp [go_sem]) (by simp);have G1:=aB (aA (grownBy_alloc w (Obj.cells #[.slice na t.N.length H,.slice ta t.tail.length a2] 26) none) g1);clear g1;go_wp2
 go_loopw [3,4,5] (fun tt cc i wr=>∃ k:Nat,k<=t.N.length/\i=.int .i64 k/\tt=.int .i64 (bY t.tail+fU (t.N.take k))/\cc=.int .i64 (t.tail.length+gK (t.N.take k))/\w1.grownBy wr none) (fun _ _ i _=>t.N.length - (intOf i).toNat)
 case atStart=>exact ⟨0,Nat.zero_le _,rfl,by simp [fU],by simp [gK],grownBy.refl _ _⟩
 case round=>
  obtain ⟨k,hk,rfl,rfl,rfl,G⟩:=hrel;have c1:=G.cell c0 (by simp);have F:=aA G1.out G
  by_cases M:k<t.N.length
  .obtain ⟨b,f6,c5,lv,kv,xv,uv,a0,c2,hb,D⟩:=(HV.out.K F).at k M;cases c2;have z0:=D.k;have z1:=D.L;have z2:=D.mem;have z3:=D.key;have z4:=D.X;have z5:=D.U;have z6:=D.C;have z7:=D.tail;have s1:=bN t.N[k].L;have s2:=bN t.N[k].tail;have HS:=aB (aB7 t.N k M);have HQ:=aB (aB3 t.N k M);have h1:=aGk t.N (k+1);have h2:=iR (t.N.take k);have h3:=aG4 t.N (k+1);have h4:=iH (t.N.take k);rw [HS.out] at h1;rw [HQ.out] at h3;unfold nr at h1;unfold nc at h3;have I:=F.size;have L1:Hid (∀ h,wr.grownBy h none->Calls prog 75 #[lv] h fun e E=>e=.returned (.tuple #[.int .i64 (bY t.N[k].L),.int .i64 t.N[k].L.length])/\h.grownBy E none):=fun h g=>uU lv t.N[k].L h ((D.rl.K g).wide (Nat.le_trans I g.size)) (by omega) (by omega);have L2:Hid (∀ h,wr.grownBy h none->Calls prog 75 #[a0] h fun e E=>e=.returned (.tuple #[.int .i64 (bY t.N[k].tail),.int .i64 t.N[k].tail.length])/\h.grownBy E none):=fun h g=>uU a0 t.N[k].tail h ((D.rt.K g).wide (Nat.le_trans I g.size)) (by omega) (by omega);obtain ⟨la,d4,b5,_,_⟩:=D.rl.sl;obtain ⟨qa,a1,b9,_,_⟩:=D.rt.sl;obtain ⟨ka,Y,b3,_,_⟩:=D.sk;obtain ⟨xa,a4,b0,_,_⟩:=D.sx;obtain ⟨ua,Z,a8,_,_⟩:=D.su;have b6:Hid (nr t.N[k]=t.N[k].key.length+t.N[k].U.length+t.N[k].X.length+(bY t.N[k].L+bY t.N[k].tail)):=rfl;have b7:Hid (nc t.N[k]=t.N[k].L.length+t.N[k].tail.length):=rfl;have HG:=aB G;subst b5 b9 b3 b0 a8;clear D G F I;generalize t.N[k]=p at *;generalize fU (t.N.take k)=T at *;generalize gK (t.N.take k)=Q at *;generalize bY p.L=A at *;generalize bY p.tail=B at *;generalize bY t.tail=C at *
   go_wp2_with fail
   refine (L1.out _ gWA).mono ?_;rintro e w2 ⟨rfl,S⟩;have y3:w2.cell? ⟨wr.heap.size,3,none⟩=some (.slice ka p.key.length Y):=S.cell (by simp [go_sem]) (by simp);have y4:w2.cell? ⟨wr.heap.size,4,none⟩=some (.slice xa p.X.length a4):=S.cell (by simp [go_sem]) (by simp);have y5:w2.cell? ⟨wr.heap.size,5,none⟩=some (.slice ua p.U.length Z):=S.cell (by simp [go_sem]) (by simp);have y7:w2.cell? ⟨wr.heap.size,7,none⟩=some (.slice qa p.tail.length a1):=S.cell (by simp [go_sem]) (by simp);have G2:=aB (aA (grownBy_alloc wr _ none) S);clear S
   go_wp2_with fail
   refine (L2.out _ G2.out).mono ?_;rintro e w3 ⟨rfl,g3⟩;have x3:=g3.cell y3 (by simp);have x4:=g3.cell y4 (by simp);have x5:=g3.cell y5 (by simp);have G3:=aB (aA G2.out g3);clear g3;go_wp2
   go_roundw
   case rel=>exact ⟨k+1,by omega,by go_num,by rw [HS.out,b6.out];go_num,by rw [HQ.out,b7.out];go_num,aA HG.out G3.out⟩
   case measure=>simp [intOf];omega
  .have ht:t.N.take k=t.N:=(by rw [show k=t.N.length by omega,take_length]);rw [ht];have e1:bY t.tail+fU t.N=fU t.N+bY t.tail:=(by omega);have e2:(t.tail.length:Int)+gK t.N=gK t.N+t.tail.length:=(by omega);rw [e1,e2];have HG:=aB F;clear ht e1 e2 G F
   by_cases hT:fU t.N+bY t.tail<=100000
   .have HF:Hid (decide (fU t.N+bY t.tail<=100000)=true):=decide_eq_true hT;go_wp2;go_ret;exact ⟨by rw [HF.out];rfl,HG.out⟩
   .have HF:Hid (decide (fU t.N+bY t.tail<=100000)=false):=decide_eq_false hT;go_wp2;go_ret;exact ⟨by rw [HF.out];rfl,HG.out⟩
structure Cx (w:World) (B:Nat) (m:Int):Prop where
 T:Tab w
 M:w.cell? ⟨1,0,none⟩=some (.int .i64 m)
 b:2<=B
 s:B<=w.heap.size
theorem Cx.below {w A B m} (h:Cx w B m) (D:Below B w A) (E:w.heap.size<=A.heap.size):Cx A B m:=
 ⟨h.T.below D (by have:=h.b;omega),(cell?_of_block (D.block 1 (by have:=h.b;omega))).trans h.M,h.b,Nat.le_trans h.s E⟩
theorem lX {w:World} {A} {B h:Nat} (g:w.grownBy A (some h)) (D:B<=h) (E:B<=w.heap.size):Below B w A:=(Below.refl B w).grown g E (fun k e=>by cases e;exact D)
theorem RdC.below {B} {k:Nat} {w A v D} (h:RdC B w v D) (g:w.grownBy A (some k)) (E:B<=k):RdC B A v D:=h.beside g (fun j e=>by cases e;exact E)
theorem fQ (h v cv A c r m B w) (hk:Ck w h v c r) (hx:Cx w B m) (hv:RdC B w cv A) (hB:B<=h) (hn:A.length<=1048576) (ho:zI A) (hr:0<=r/\r<=1048576) (hc : -1048576<=c/\c<=1048576) :
  Calls prog 53 #[.pointer (some ⟨h,0,none⟩),cv] w fun e w'=>∃ (b:Bool) (c' r':Int),e=.returned (.bool b)/\Ck w' h v c' r'/\mW bH A (c,r)=(if b then some (c',r') else none)/\w.grownBy w' (some h):=by
 obtain ⟨a,h1,d2,_⟩:=id hv;have a2:=hk.c;have b2:=hk.fc;have HK:Hid (Ck (w.setCell ⟨h,1,none⟩ (.int .i64 (c - A.length))) h v (c - A.length) r):=hk.setC _;have HG:Hid (w.grownBy (w.setCell ⟨h,1,none⟩ (.int .i64 (c - A.length))) (some h)):=lH w ⟨h,1,none⟩ _;have HV:=aB (hv.below HG.out hB);have HX:=aB (hx.below (lX HG.out hB hx.s) (by simp));have HO:=aB ho;subst d2;clear hk hv hx ho
 by_cases c4:c - (A.length:Int)<0
 .have HF:Hid (mW bH A (c,r)=none):=by unfold Hid mW;rw [if_pos c4]
  go_enter func53,ntmps53
  go_wp2;go_ret;exact ⟨false,_,_,rfl,HK.out,HF.out,HG.out⟩
 .have b5:(A.length:Int)<=c:=by omega
  go_enter func53,ntmps53
  go_wp2;obtain ⟨W1,b3⟩:∃ W1,W1=w.setCell ⟨h,1,none⟩ (.int .i64 (c - A.length)):=⟨_,rfl⟩;rw [<- b3] at HK HG HV HX ⊢;clear b3 a2 b2
  go_loopw [23] (fun i wr=>∃ k:Nat,k<=A.length/\i=.int .i64 k/\Hid ((A.take k).all bH=true)/\Hid (Ck wr h v (c - A.length) (r - bY (A.take k)))/\0<=r - bY (A.take k)/\W1.grownBy wr (some h)) (fun i _=>A.length - (intOf i).toNat)
  case atStart=>exact ⟨0,Nat.zero_le _,rfl,by simp [Hid],by simpa [bY] using HK,by simpa [bY] using hr.1,grownBy.refl _ _⟩
  case round=>
   obtain ⟨k,hk,rfl,HA,J,c7,F⟩:=hrel;have a5:=aB F;have a7:=aB (HX.out.below (lX F hB HX.out.s) F.size);have g4:=bN (A.take k)
   by_cases O:k<A.length
   .obtain ⟨b,h0,f2,tv,d9,hb,hp⟩:=(HV.out.below F hB).at k O;cases d9;have z0:=hp.k;have z1:=hp.t;obtain ⟨l1,l2⟩:=HO.out A[k] (getElem_mem O);have a3:=yK A k O;have a8:=aDB A (k+1);have g5:=J.out.lt;have gA:=grownBy_alloc wr (Obj.cells #[.bool A[k].b,tv] 96) none;have HT:=aB (qG h v none A[k].t.length 0 (c - A.length) (r - bY (A.take k)) _ (J.out.K gA) l1 (by omega));obtain ⟨ta,N,b1,s1,s2⟩:=id hp.sl;have H:=aB (qG h v ta A[k].t.length N (c - A.length) (r - bY (A.take k)) _ (J.out.K gA) l1 (by omega));have GA:=aB gA;have HP:=aB hp;have g9:(k:Int)<A.length:=(by omega);clear HT gA hp F
    by_cases D:(A[k].t.length:Int)<=r - bY (A.take k)
    .rw [decide_eq_true D] at H
     have Y:Hid (∀ I:World,(wr.alloc (Obj.cells #[.bool A[k].b,tv] 96)).grownBy I (some h)->Calls prog 95 #[.agg #[.bool A[k].b,tv]] I fun e w'=>e=.returned (.bool (bH A[k]))/\I.grownBy w' none):=fun I E=>by
      have X2:=(a7.out.below (aV GA.out |>.mono a7.out.s) GA.out.size).below (lX E hB (Nat.le_trans a7.out.s GA.out.size)) E.size;exact aBL tv A[k] m I ((((HP.out.rd.K GA.out).beside E (fun j e=>by cases e;exact hB))).wideC X2.s) l2 l1 HP.out.sl X2.T X2.M
     subst b1;cases G:bH A[k] with
     | true=>
       have HN:=aB (yL bH A k O HA.out G);have b0:r - bY (A.take k) - (A[k].t.length:Int)=r - bY (A.take (k+1)):=(by omega);rw [G] at Y;rw [b0] at H;have b4:0<=r - bY (A.take (k+1)):=(by omega);clear G b0 a3 a8 D l2;generalize A[k]=p at *
       go_wp2_with fail
       refine H.out.mono ?_;rintro e I ⟨rfl,Z,E⟩;have q0:I.cell? ⟨wr.heap.size,0,none⟩=some (.bool p.b):=E.cell (by simp [go_sem]) (by simp;omega);have q1:I.cell? ⟨wr.heap.size,1,none⟩=some (.slice ta p.t.length N):=E.cell (by simp [go_sem]) (by simp;omega);have K2:=aB Z;have S:=aB E;clear Z E
       go_wp2_with fail
       refine (Y.out _ S.out).mono ?_;rintro e w3 ⟨rfl,g3⟩;have K3:=aB (K2.out.K g3);have G3:=aB (aT a5.out (aT (eJ GA.out _) (aT S.out (eJ g3 _))));clear g3;go_wp2
       go_roundw
       case rel=>exact ⟨k+1,by omega,by go_num,HN,K3,b4,G3.out⟩
       case measure=>simp [intOf];omega
     | false=>
       have HF:Hid (mW bH A (c,r)=none):=by
        unfold Hid;rw [mT bH A c r hr.1,if_neg];rintro ⟨_,h2,_⟩;rw [aAv bH A k O G] at h2;cases h2
       rw [G] at Y;clear G a3 a8 D l2;generalize A[k]=p at *
       go_wp2_with fail
       refine H.out.mono ?_;rintro e I ⟨rfl,Z,E⟩;have q0:I.cell? ⟨wr.heap.size,0,none⟩=some (.bool p.b):=E.cell (by simp [go_sem]) (by simp;omega);have q1:I.cell? ⟨wr.heap.size,1,none⟩=some (.slice ta p.t.length N):=E.cell (by simp [go_sem]) (by simp;omega);have K2:=aB Z;have S:=aB E;clear Z E
       go_wp2_with fail
       refine (Y.out _ S.out).mono ?_;rintro e w3 ⟨rfl,g3⟩;have K3:=aB (K2.out.K g3);have G3:=aB (aT HG.out (aT a5.out (aT (eJ GA.out _) (aT S.out (eJ g3 _)))));clear g3;go_wp2;go_ret;exact ⟨false,_,_,rfl,K3.out,HF.out,G3.out⟩
    .have HF:Hid (mW bH A (c,r)=none):=by
      unfold Hid;rw [mT bH A c r hr.1,if_neg];rintro ⟨_,_,h3⟩;omega
     rw [decide_eq_false D] at H;subst b1;clear a3 a8 D l2;generalize A[k]=p at *
     go_wp2_with fail
     refine H.out.mono ?_;rintro e I ⟨rfl,Z,E⟩;have K2:=aB Z;have S:=aB (aT HG.out (aT a5.out (aT (eJ GA.out _) E)));clear Z E;go_wp2;go_ret;exact ⟨false,_,_,rfl,K2.out,HF.out,S.out⟩
   .have d7:k=A.length:=(by omega);subst d7;rw [take_length] at HA J c7
    have HF:Hid (mW bH A (c,r)=some (c - A.length,r - bY A)):=by
     unfold Hid;rw [mT bH A c r hr.1,if_pos ⟨b5,HA.out,by omega⟩]
    have S:=aB (aT HG.out F);clear F;go_wp2;go_ret;exact ⟨true,_,_,rfl,J.out,HF.out,S.out⟩
theorem zN {c:Int} (A:0<=c) (D:c<=255):Bys [c]:=fun z h=>by simp at h;omega
theorem y48 {A D w} {r:List Int} (h:St A D w ([48]++r)) :
  Calls prog 162 #[.pointer (some ⟨A,0,none⟩),.string { data:=#[48] }] w fun e E=>e=.returned (.bool true)/\St A D E r:=fD [48] r (zN (by omega) (by omega)) (by simp) h
theorem n48 {A D w} {s:List Int} (F:¬ [48] <+: s) (h:St A D w s) :
  Calls prog 162 #[.pointer (some ⟨A,0,none⟩),.string { data:=#[48] }] w fun e E=>e=.returned (.bool false)/\St A D E s:=gV [48] s (zN (by omega) (by omega)) (by simp) F h
theorem y46 {A D w} {r:List Int} (h:St A D w ([46]++r)) :
  Calls prog 162 #[.pointer (some ⟨A,0,none⟩),.string { data:=#[46] }] w fun e E=>e=.returned (.bool true)/\St A D E r:=fD [46] r (zN (by omega) (by omega)) (by simp) h
theorem n46 {A D w} {s:List Int} (F:¬ [46] <+: s) (h:St A D w s) :
  Calls prog 162 #[.pointer (some ⟨A,0,none⟩),.string { data:=#[46] }] w fun e E=>e=.returned (.bool false)/\St A D E s:=gV [46] s (zN (by omega) (by omega)) (by simp) F h
theorem aH9 {A D w} {r:List Int} (h:St A D w ([101]++r)) :
  Calls prog 162 #[.pointer (some ⟨A,0,none⟩),.string { data:=#[101] }] w fun e E=>e=.returned (.bool true)/\St A D E r:=fD [101] r (zN (by omega) (by omega)) (by simp) h
theorem aIc {A D w} {s:List Int} (F:¬ [101] <+: s) (h:St A D w s) :
  Calls prog 162 #[.pointer (some ⟨A,0,none⟩),.string { data:=#[101] }] w fun e E=>e=.returned (.bool false)/\St A D E s:=gV [101] s (zN (by omega) (by omega)) (by simp) F h
theorem y69 {A D w} {r:List Int} (h:St A D w ([69]++r)) :
  Calls prog 162 #[.pointer (some ⟨A,0,none⟩),.string { data:=#[69] }] w fun e E=>e=.returned (.bool true)/\St A D E r:=fD [69] r (zN (by omega) (by omega)) (by simp) h
theorem n69 {A D w} {s:List Int} (F:¬ [69] <+: s) (h:St A D w s) :
  Calls prog 162 #[.pointer (some ⟨A,0,none⟩),.string { data:=#[69] }] w fun e E=>e=.returned (.bool false)/\St A D E s:=gV [69] s (zN (by omega) (by omega)) (by simp) F h
theorem y43 {A D w} {r:List Int} (h:St A D w ([43]++r)) :
  Calls prog 162 #[.pointer (some ⟨A,0,none⟩),.string { data:=#[43] }] w fun e E=>e=.returned (.bool true)/\St A D E r:=fD [43] r (zN (by omega) (by omega)) (by simp) h
theorem n43 {A D w} {s:List Int} (F:¬ [43] <+: s) (h:St A D w s) :
  Calls prog 162 #[.pointer (some ⟨A,0,none⟩),.string { data:=#[43] }] w fun e E=>e=.returned (.bool false)/\St A D E s:=gV [43] s (zN (by omega) (by omega)) (by simp) F h
theorem y45 {A D w} {r:List Int} (h:St A D w ([45]++r)) :
  Calls prog 162 #[.pointer (some ⟨A,0,none⟩),.string { data:=#[45] }] w fun e E=>e=.returned (.bool true)/\St A D E r:=fD [45] r (zN (by omega) (by omega)) (by simp) h
theorem n45 {A D w} {s:List Int} (F:¬ [45] <+: s) (h:St A D w s) :
  Calls prog 162 #[.pointer (some ⟨A,0,none⟩),.string { data:=#[45] }] w fun e E=>e=.returned (.bool false)/\St A D E s:=gV [45] s (zN (by omega) (by omega)) (by simp) F h
theorem skd {A D w} {s:List Int} (t:List Int) (b:Bool) (F:s.dropWhile aK=t) (E:eB aK s=b) (h:St A D w s) :
  Calls prog 163 #[.pointer (some ⟨A,0,none⟩),.func (.func 177) #[] #[]] w fun e G=>e=.returned (.bool b)/\St A D G t:=by
 rw [<- F,<- E];exact aGC _ aK aFU aKz s h
theorem aBu {N w0 w} (s) (J O:List Int) (Y:Bool) (S:Hid (J.dropWhile aK=O)) (M:Hid (eB aK J=Y)) (HM:Hid (iB s=jC (true,O))) (h:St N w0 w ([48]++([46]++J))) :
  Calls prog 165 #[.pointer (some ⟨N,0,none⟩)] w fun e A=>e=.returned (.bool (iB s).1)/\St N w0 A (iB s).2:=by
 have Z:∀ (x:Bool) (w:World),(Op.unary .not (.bool x)).run prog w=.ok (.bool (!x)) w:=fun _ _=>rfl;cases Y
 all_goals
  go_enter func165,ntmps165
  go_wp2_with fail
  refine (y48 h).mono ?_;rintro e A ⟨rfl,h⟩
  go_wp2_with fail
  refine (y46 h).mono ?_;rintro e A ⟨rfl,h⟩
  go_wp2_with fail
  refine (skd _ _ S.out M.out h).mono ?_;rintro e A ⟨rfl,h⟩;rcases aIx O with ⟨r3,rfl,D⟩ | ⟨r3,rfl,F,D⟩ | ⟨F,G,D⟩
  all_goals try rcases tS r3 with ⟨t,rfl,I⟩ | ⟨t,rfl,E,I⟩ | ⟨E,H,I⟩
  all_goals
   try rw [I] at D
   replace D:=aB (HM.out.trans D)
   try clear I
   try replace F:=aB F
   try replace G:=aB G
   try replace E:=aB E
   try replace H:=aB H
   go_wp2_with fail
   first
    | (refine (aH9 h).mono ?_;rintro e A ⟨rfl,h⟩)
    | (refine (aIc F.out h).mono ?_;rintro e A ⟨rfl,h⟩;go_wp2_with fail
       first
        | (refine (y69 h).mono ?_;rintro e A ⟨rfl,h⟩)
        | (refine (n69 G.out h).mono ?_;rintro e A ⟨rfl,h⟩;go_wp2;go_ret;exact ⟨by rw [D.out];rfl,by rw [D.out];exact h⟩))
  all_goals
   go_wp2_with fail
   first
    | (refine (y43 h).mono ?_;rintro e A ⟨rfl,h⟩)
    | (refine (n43 E.out h).mono ?_;rintro e A ⟨rfl,h⟩;go_wp2_with fail
       first
        | (refine (y45 h).mono ?_;rintro e A ⟨rfl,h⟩)
        | (refine (n45 H.out h).mono ?_;rintro e A ⟨rfl,h⟩))
   go_wp2_with fail
   refine (skd _ _ rfl rfl h).mono ?_;rintro e A ⟨rfl,h⟩;go_wp2;go_ret;exact ⟨by rw [D.out];rfl,by rw [D.out];exact h⟩
theorem aAB {M S w} (s) (r:List Int) (J:Hid (¬ [46] <+: r)) (Y:Hid (iB s=jC (true,r))) (h:St M S w ([48]++r)) :
  Calls prog 165 #[.pointer (some ⟨M,0,none⟩)] w fun e A=>e=.returned (.bool (iB s).1)/\St M S A (iB s).2:=by
 have O:∀ (x:Bool) (w:World),(Op.unary .not (.bool x)).run prog w=.ok (.bool (!x)) w:=fun _ _=>rfl
 go_enter func165,ntmps165
 go_wp2_with fail
 refine (y48 h).mono ?_;rintro e A ⟨rfl,h⟩
 go_wp2_with fail
 refine (n46 J.out h).mono ?_;rintro e A ⟨rfl,h⟩;rcases aIx r with ⟨N,rfl,D⟩ | ⟨N,rfl,F,D⟩ | ⟨F,G,D⟩
 all_goals try rcases tS N with ⟨t,rfl,I⟩ | ⟨t,rfl,E,I⟩ | ⟨E,H,I⟩
 all_goals
  try rw [I] at D
  replace D:=aB (Y.out.trans D)
  try clear I
  try replace F:=aB F
  try replace G:=aB G
  try replace E:=aB E
  try replace H:=aB H
  go_wp2_with fail
  first
   | (refine (aH9 h).mono ?_;rintro e A ⟨rfl,h⟩)
   | (refine (aIc F.out h).mono ?_;rintro e A ⟨rfl,h⟩;go_wp2_with fail
      first
       | (refine (y69 h).mono ?_;rintro e A ⟨rfl,h⟩)
       | (refine (n69 G.out h).mono ?_;rintro e A ⟨rfl,h⟩;go_wp2;go_ret;exact ⟨by rw [D.out];rfl,by rw [D.out];exact h⟩))
 all_goals
  go_wp2_with fail
  first
   | (refine (y43 h).mono ?_;rintro e A ⟨rfl,h⟩)
   | (refine (n43 E.out h).mono ?_;rintro e A ⟨rfl,h⟩;go_wp2_with fail
      first
       | (refine (y45 h).mono ?_;rintro e A ⟨rfl,h⟩)
       | (refine (n45 H.out h).mono ?_;rintro e A ⟨rfl,h⟩))
  go_wp2_with fail
  refine (skd _ _ rfl rfl h).mono ?_;rintro e A ⟨rfl,h⟩;go_wp2;go_ret;exact ⟨by rw [D.out];rfl,by rw [D.out];exact h⟩
theorem aAP {Z w0 w} (s Y O:List Int) (b2:Bool) (J:Hid (¬ [48] <+: s)) (S:Hid (s.dropWhile aK=[46]++Y)) (hh:Hid (eB aK s=true)) (M:Hid (Y.dropWhile aK=O)) (N:Hid (eB aK Y=b2)) (HM:Hid (iB s=jC (true,O))) (h:St Z w0 w s) :
  Calls prog 165 #[.pointer (some ⟨Z,0,none⟩)] w fun e A=>e=.returned (.bool (iB s).1)/\St Z w0 A (iB s).2:=by
 have a3:∀ (x:Bool) (w:World),(Op.unary .not (.bool x)).run prog w=.ok (.bool (!x)) w:=fun _ _=>rfl;cases b2
 all_goals
  go_enter func165,ntmps165
  go_wp2_with fail
  refine (n48 J.out h).mono ?_;rintro e A ⟨rfl,h⟩
  go_wp2_with fail
  refine (skd _ _ S.out hh.out h).mono ?_;rintro e A ⟨rfl,h⟩
  go_wp2_with fail
  refine (y46 h).mono ?_;rintro e A ⟨rfl,h⟩
  go_wp2_with fail
  refine (skd _ _ M.out N.out h).mono ?_;rintro e A ⟨rfl,h⟩;rcases aIx O with ⟨r3,rfl,F⟩ | ⟨r3,rfl,E,F⟩ | ⟨E,H,F⟩
  all_goals try rcases tS r3 with ⟨t,rfl,I⟩ | ⟨t,rfl,D,I⟩ | ⟨D,G,I⟩
  all_goals
   try rw [I] at F
   replace F:=aB (HM.out.trans F)
   try clear I
   try replace E:=aB E
   try replace H:=aB H
   try replace D:=aB D
   try replace G:=aB G
   go_wp2_with fail
   first
    | (refine (aH9 h).mono ?_;rintro e A ⟨rfl,h⟩)
    | (refine (aIc E.out h).mono ?_;rintro e A ⟨rfl,h⟩;go_wp2_with fail
       first
        | (refine (y69 h).mono ?_;rintro e A ⟨rfl,h⟩)
        | (refine (n69 H.out h).mono ?_;rintro e A ⟨rfl,h⟩;go_wp2;go_ret;exact ⟨by rw [F.out];rfl,by rw [F.out];exact h⟩))
  all_goals
   go_wp2_with fail
   first
    | (refine (y43 h).mono ?_;rintro e A ⟨rfl,h⟩)
    | (refine (n43 D.out h).mono ?_;rintro e A ⟨rfl,h⟩;go_wp2_with fail
       first
        | (refine (y45 h).mono ?_;rintro e A ⟨rfl,h⟩)
        | (refine (n45 G.out h).mono ?_;rintro e A ⟨rfl,h⟩))
   go_wp2_with fail
   refine (skd _ _ rfl rfl h).mono ?_;rintro e A ⟨rfl,h⟩;go_wp2;go_ret;exact ⟨by rw [F.out];rfl,by rw [F.out];exact h⟩
theorem aAA {S w0 w} (s I:List Int) (M:Hid (¬ [48] <+: s)) (N:Hid (s.dropWhile aK=I)) (hh:Hid (eB aK s=true)) (O:Hid (¬ [46] <+: I)) (HM:Hid (iB s=jC (true,I))) (h:St S w0 w s) :
  Calls prog 165 #[.pointer (some ⟨S,0,none⟩)] w fun e A=>e=.returned (.bool (iB s).1)/\St S w0 A (iB s).2:=by
 have Z:∀ (x:Bool) (w:World),(Op.unary .not (.bool x)).run prog w=.ok (.bool (!x)) w:=fun _ _=>rfl
 go_enter func165,ntmps165
 go_wp2_with fail
 refine (n48 M.out h).mono ?_;rintro e A ⟨rfl,h⟩
 go_wp2_with fail
 refine (skd _ _ N.out hh.out h).mono ?_;rintro e A ⟨rfl,h⟩
 go_wp2_with fail
 refine (n46 O.out h).mono ?_;rintro e A ⟨rfl,h⟩;rcases aIx I with ⟨Y,rfl,D⟩ | ⟨Y,rfl,F,D⟩ | ⟨F,G,D⟩
 all_goals try rcases tS Y with ⟨t,rfl,J⟩ | ⟨t,rfl,E,J⟩ | ⟨E,H,J⟩
 all_goals
  try rw [J] at D
  replace D:=aB (HM.out.trans D)
  try clear J
  try replace F:=aB F
  try replace G:=aB G
  try replace E:=aB E
  try replace H:=aB H
  go_wp2_with fail
  first
   | (refine (aH9 h).mono ?_;rintro e A ⟨rfl,h⟩)
   | (refine (aIc F.out h).mono ?_;rintro e A ⟨rfl,h⟩;go_wp2_with fail
      first
       | (refine (y69 h).mono ?_;rintro e A ⟨rfl,h⟩)
       | (refine (n69 G.out h).mono ?_;rintro e A ⟨rfl,h⟩;go_wp2;go_ret;exact ⟨by rw [D.out];rfl,by rw [D.out];exact h⟩))
 all_goals
  go_wp2_with fail
  first
   | (refine (y43 h).mono ?_;rintro e A ⟨rfl,h⟩)
   | (refine (n43 E.out h).mono ?_;rintro e A ⟨rfl,h⟩;go_wp2_with fail
      first
       | (refine (y45 h).mono ?_;rintro e A ⟨rfl,h⟩)
       | (refine (n45 H.out h).mono ?_;rintro e A ⟨rfl,h⟩))
  go_wp2_with fail
  refine (skd _ _ rfl rfl h).mono ?_;rintro e A ⟨rfl,h⟩;go_wp2;go_ret;exact ⟨by rw [D.out];rfl,by rw [D.out];exact h⟩
theorem aBy {Z w0 w} (s Y O:List Int) (J:Hid (¬ [48] <+: s)) (S:Hid (s.dropWhile aK=[46]++Y)) (hh:Hid (eB aK s=false)) (M:Hid (Y.dropWhile aK=O)) (N:Hid (eB aK Y=true)) (HM:Hid (iB s=jC (true,O))) (h:St Z w0 w s) :
  Calls prog 165 #[.pointer (some ⟨Z,0,none⟩)] w fun e A=>e=.returned (.bool (iB s).1)/\St Z w0 A (iB s).2:=by
 have a2:∀ (x:Bool) (w:World),(Op.unary .not (.bool x)).run prog w=.ok (.bool (!x)) w:=fun _ _=>rfl
 go_enter func165,ntmps165
 go_wp2_with fail
 refine (n48 J.out h).mono ?_;rintro e A ⟨rfl,h⟩
 go_wp2_with fail
 refine (skd _ _ S.out hh.out h).mono ?_;rintro e A ⟨rfl,h⟩
 go_wp2_with fail
 refine (y46 h).mono ?_;rintro e A ⟨rfl,h⟩
 go_wp2_with fail
 refine (skd _ _ M.out N.out h).mono ?_;rintro e A ⟨rfl,h⟩;rcases aIx O with ⟨r3,rfl,F⟩ | ⟨r3,rfl,E,F⟩ | ⟨E,H,F⟩
 all_goals try rcases tS r3 with ⟨t,rfl,I⟩ | ⟨t,rfl,D,I⟩ | ⟨D,G,I⟩
 all_goals
  try rw [I] at F
  replace F:=aB (HM.out.trans F)
  try clear I
  try replace E:=aB E
  try replace H:=aB H
  try replace D:=aB D
  try replace G:=aB G
  go_wp2_with fail
  first
   | (refine (aH9 h).mono ?_;rintro e A ⟨rfl,h⟩)
   | (refine (aIc E.out h).mono ?_;rintro e A ⟨rfl,h⟩;go_wp2_with fail
      first
       | (refine (y69 h).mono ?_;rintro e A ⟨rfl,h⟩)
       | (refine (n69 H.out h).mono ?_;rintro e A ⟨rfl,h⟩;go_wp2;go_ret;exact ⟨by rw [F.out];rfl,by rw [F.out];exact h⟩))
 all_goals
  go_wp2_with fail
  first
   | (refine (y43 h).mono ?_;rintro e A ⟨rfl,h⟩)
   | (refine (n43 D.out h).mono ?_;rintro e A ⟨rfl,h⟩;go_wp2_with fail
      first
       | (refine (y45 h).mono ?_;rintro e A ⟨rfl,h⟩)
       | (refine (n45 G.out h).mono ?_;rintro e A ⟨rfl,h⟩))
  go_wp2_with fail
  refine (skd _ _ rfl rfl h).mono ?_;rintro e A ⟨rfl,h⟩;go_wp2;go_ret;exact ⟨by rw [F.out];rfl,by rw [F.out];exact h⟩
theorem aAN {H O w} (s F N:List Int) (D:Hid (¬ [48] <+: s)) (E:Hid (s.dropWhile aK=[46]++F)) (S:Hid (eB aK s=false)) (I:Hid (F.dropWhile aK=N)) (G:Hid (eB aK F=false)) (J:Hid (iB s=(false,N))) (h:St H O w s) :
  Calls prog 165 #[.pointer (some ⟨H,0,none⟩)] w fun e A=>e=.returned (.bool (iB s).1)/\St H O A (iB s).2:=by
 have M:∀ (x:Bool) (w:World),(Op.unary .not (.bool x)).run prog w=.ok (.bool (!x)) w:=fun _ _=>rfl
 go_enter func165,ntmps165
 go_wp2_with fail
 refine (n48 D.out h).mono ?_;rintro e A ⟨rfl,h⟩
 go_wp2_with fail
 refine (skd _ _ E.out S.out h).mono ?_;rintro e A ⟨rfl,h⟩
 go_wp2_with fail
 refine (y46 h).mono ?_;rintro e A ⟨rfl,h⟩
 go_wp2_with fail
 refine (skd _ _ I.out G.out h).mono ?_;rintro e A ⟨rfl,h⟩;go_wp2;go_ret;exact ⟨by rw [J.out];rfl,by rw [J.out];exact h⟩
theorem aBc {G J w} (s:List Int) (D:Hid (¬ [48] <+: s)) (E:Hid (s.dropWhile aK=s)) (M:Hid (eB aK s=false)) (F:Hid (¬ [46] <+: s)) (H:Hid (iB s=(false,s))) (h:St G J w s) :
  Calls prog 165 #[.pointer (some ⟨G,0,none⟩)] w fun e A=>e=.returned (.bool (iB s).1)/\St G J A (iB s).2:=by
 have I:∀ (x:Bool) (w:World),(Op.unary .not (.bool x)).run prog w=.ok (.bool (!x)) w:=fun _ _=>rfl
 go_enter func165,ntmps165
 go_wp2_with fail
 refine (n48 D.out h).mono ?_;rintro e A ⟨rfl,h⟩
 go_wp2_with fail
 refine (skd _ _ E.out M.out h).mono ?_;rintro e A ⟨rfl,h⟩
 go_wp2_with fail
 refine (n46 F.out h).mono ?_;rintro e A ⟨rfl,h⟩;go_wp2;go_ret;exact ⟨by rw [H.out];rfl,by rw [H.out];exact h⟩
theorem nL {S Z w} (s) (h:St S Z w s) :
  Calls prog 165 #[.pointer (some ⟨S,0,none⟩)] w fun e w'=>e=.returned (.bool (iB s).1)/\St S Z w' (iB s).2:=by
 rcases aLX s with ⟨r,O,F⟩ | ⟨Y,N,I,F⟩
 .rcases aKm true r with ⟨J,M,rfl,D,E⟩ | ⟨A,E⟩
  .exact aBu s J M _ D rfl (by rw [Hid,iB,F,E];simp) (O ▸ h)
  .exact aAB s r A (by rw [Hid,iB,F,E]) (O ▸ h)
 .cases H:eB aK s
  .have e:s.dropWhile aK=s:=by
    cases s with
    | nil=>rfl
    | cons c r=>simp only [eB] at H;simp [H]
   rw [<- I,e,H] at F;rcases aKm false s with ⟨J,M,O,D,E⟩ | ⟨A,E⟩
   .cases G:eB aK J
    .exact aAN s J M N (by rw [Hid,e,<- O]) H D G (by rw [Hid,iB,F,E,G];rfl) h
    .exact aBy s J M N (by rw [Hid,e,<- O]) H D G (by rw [Hid,iB,F,E,G];rfl) h
   .exact aBc s N e H A (by rw [Hid,iB,F,E];rfl) h
  .rw [H] at F;rcases aKm true Y with ⟨J,M,rfl,D,E⟩ | ⟨A,E⟩
   .exact aAP s J M _ N I H D rfl (by rw [Hid,iB,F,E];simp) h
   .exact aAA s Y N I H A (by rw [Hid,iB,F,E]) h
theorem aDb (p:Int) (w):Calls prog 184 #[.int .i32 p] w fun e D=>e=.returned (.int .i64 (jU p))/\w=D:=by
 cases h:aK p
 .by_cases E:97<=p
  .by_cases I:p<=102
   .have A:Hid (jU p=p - 97+10):=by simp [Hid,jU,h,E,I]
    go_enter func184,ntmps184
    go_wp2_with (go_at_call 177;refine (fY _ _).mono ?_;rintro e D ⟨rfl,rfl⟩;rw [h])
    go_ret;exact ⟨by rw [A.out];first | rfl | (congr 2;go_num),rfl⟩
   .have F:¬ p<=70:=(by omega);have A:Hid (jU p = -1):=(by simp [Hid,jU,h,E,I];omega);have H:65<=p:=by omega
    go_enter func184,ntmps184
    go_wp2_with (go_at_call 177;refine (fY _ _).mono ?_;rintro e D ⟨rfl,rfl⟩;rw [h])
    go_ret;exact ⟨by rw [A.out];rfl,rfl⟩
  .by_cases F:65<=p
   .by_cases H:p<=70
    .have A:Hid (jU p=p - 65+10):=by simp [Hid,jU,h,E,F,H]
     go_enter func184,ntmps184
     go_wp2_with (go_at_call 177;refine (fY _ _).mono ?_;rintro e D ⟨rfl,rfl⟩;rw [h])
     go_ret;exact ⟨by rw [A.out];first | rfl | (congr 2;go_num),rfl⟩
    .have A:Hid (jU p = -1):=by simp [Hid,jU,h,E,F,H]
     go_enter func184,ntmps184
     go_wp2_with (go_at_call 177;refine (fY _ _).mono ?_;rintro e D ⟨rfl,rfl⟩;rw [h])
     go_ret;exact ⟨by rw [A.out];rfl,rfl⟩
   .have A:Hid (jU p = -1):=by simp [Hid,jU,h,E,F]
    go_enter func184,ntmps184
    go_wp2_with (go_at_call 177;refine (fY _ _).mono ?_;rintro e D ⟨rfl,rfl⟩;rw [h])
    go_ret;exact ⟨by rw [A.out];rfl,rfl⟩
 .have A:Hid (jU p=p - 48):=(by simp [Hid,jU,h]);have G:48<=p/\p<=57:=(by simpa [aK] using h);obtain ⟨M,J⟩:=G
  go_enter func184,ntmps184
  go_wp2_with (go_at_call 177;refine (fY _ _).mono ?_;rintro e D ⟨rfl,rfl⟩;rw [h])
  go_ret;exact ⟨by rw [A.out];first | rfl | (congr 2;go_num),rfl⟩
theorem aBb (p:Int) (w):Calls prog 164 #[.int .i32 p] w fun e h=>e=.returned (.bool (eQ p))/\w=h:=by
 go_enter func164,ntmps164
 go_wp2_with (go_at_call 184;refine (aDb _ _).mono ?_;rintro e h ⟨rfl,rfl⟩)
 go_ret;exact ⟨rfl,rfl⟩
theorem aId:aKp 164 eQ:=⟨fun p W=>aBb p W,fun args W=>by kernel_rfl⟩
theorem aKq:Asc eQ:=fun p h=>by
 have h:0<=jU p:=of_decide_eq_true h;unfold jU at h
 split at h
 .rename_i hd;simp [aK] at hd;omega
 .split at h
  .omega
  .split at h
   .omega
   .omega
end Go.Proofs.YtckcaefnokeodaaGreatDoor
