import Derived.Deep.RegionLaw
import Derived.Test.YtgifkcpdihphlaaGreatDoorMAY
set_option maxHeartbeats 16000000
set_option maxRecDepth 100000
namespace Go.Proofs.YtgifkcpdihphlaaGreatDoor
open Tryz
open Go.RowKit
theorem aC6 {B:Nat} {w:World} {e:TypeId} {size n m:Nat} {g cap:Nat} {xs:List Value} (h:w.ownsRow B e size (.slice (some ⟨g,0,none⟩) n cap) n xs) (H:m<=n) :
  w.ownsRow B e size (.slice (some ⟨g,0,none⟩) m cap) m (xs.take (m*size)):=by
 rcases h.2 with ⟨u,_⟩ | ⟨N,G,A,u,M,L,J,E,D,j⟩
 ·simp at u
 ·simp only [Value.slice.injEq,Option.some.injEq,Addr.mk.injEq,and_true,true_and] at u;obtain ⟨rfl,rfl⟩:=u;have y:m*size<=n*size:=Nat.mul_le_mul_right _ H;refine ⟨by rw [List.length_take,h.1];omega,.inr ⟨g,cap,A,rfl,M,L,by omega,E,D,?_⟩⟩;rw [<- j,List.take_take,Nat.min_eq_left y]
theorem bD {B:Nat} {w:World} {e:TypeId} {size n:Nat} {v:Value} {xs:List Value} (h:w.ownsRow B e size v n xs):∃ a cap,v=.slice a n cap/\n<=cap/\cap<=maxLen:=by
 rcases h.2 with ⟨hv,y⟩ | ⟨g,cap,A,hv,H,G,j,u,D,E⟩
 ·exact ⟨_,0,by rw [hv,y],by omega,by unfold maxLen;omega⟩
 ·exact ⟨_,cap,hv,j,u⟩
theorem lE {B:Nat} {w w':World} {e:TypeId} {size m:Nat} {j C y:Value} {ys:List Value} {o:Obj} (D:w.ownsRow B e size j m ys) (u:∀ g,j.ownBlock=some g->C.ownBlock≠some g)
  (H:(w.alloc o).grownBy w' C.ownBlock) (A:y.ownBlock=C.ownBlock\/y.ownBlock=some (w.alloc o).heap.size):w'.ownsRow B e size j m ys/\∀ g,j.ownBlock=some g->y.ownBlock≠some g:=by
 refine ⟨World.ownsRow.kept (D.alloc o) H ?_,fun g E G=>?_⟩
 ·cases h:j.ownBlock with
  | none=>exact .inl rfl
  | some g=>exact .inr (fun e=>u g h e.symm)
 ·rcases A with h | h
  ·exact u g E (by rw [<- h,G])
  ·have:=World.ownsRow.lt D g E;rw [G] at h;simp at h;omega
theorem aLp (op:List Int) (n:Nat):op.reverse.take (op.length - n)=(op.drop n).reverse:=by
 rw [List.reverse_drop]
theorem aMR (op:List Int) (n:Nat) (h:0<n) (j:n<=op.length):op.reverse[op.length - n]?.getD 0=op[n - 1]?.getD 0:=by
 rw [List.getElem?_reverse (by omega)];congr 2;omega
theorem aJn (doc:List Pc) (k:Nat) (j:k<doc.length) (op out:List Int) (h:op.length<ar doc[k].k):kE (doc.drop k) k op out=(out,op):=by
 rw [List.drop_eq_getElem_cons j];simp only [kE];rw [if_pos h]
theorem aLj (doc:List Pc) (k:Nat) (u:k<doc.length) (op out:List Int) (h:¬ op.length<ar doc[k].k) (s:Int) (j:s=if ar doc[k].k=0 then (k:Int) else op[ar doc[k].k - 1]?.getD 0) :
  kE (doc.drop k) k op out=kE (doc.drop (k+1)) (k+1) (s::op.drop (ar doc[k].k)) (out++[s]):=by
 rw [List.drop_eq_getElem_cons u];simp only [kE];rw [if_neg h,j]
theorem uT (v:Value) (doc:List Pc) (w:World) (hv:RdP w.heap.size w v doc) (hn:doc.length<=1048576) :
  Calls prog 73 #[v] w fun e w'=>∃ v',e=.returned v'/\OwI w.heap.size w' v' (cK doc)/\w.grownBy w' none:=by
 obtain ⟨i0,hi,a5,a4,Z⟩:=info_parts aAH;obtain ⟨a,cap,h4,_⟩:=id hv;subst h4
 go_enter func73,ntmps73
 go_wp2
 go_loopw [3,4,5] (fun ov pv i wr=>∃ (k:Nat) (op out:List Int),k<=doc.length/\i=.int .i64 k/\OwI w.heap.size wr ov out/\OwI w.heap.size wr pv op.reverse/\(∀ g,ov.ownBlock=some g->pv.ownBlock≠some g)/\op.length<=k/\out.length<=k/\Hid (kE (doc.drop k) k op out=kE doc 0 [] [])/\w.grownBy wr none)
  (fun _ _ i _=>doc.length - (intOf i).toNat)
 case atStart=>exact ⟨0,[],[],Nat.zero_le _,rfl,World.ownsRow_nil _ _ _ _,World.ownsRow_nil _ _ _ _,(fun g h=>by simp [Value.ownBlock] at h),Nat.le_refl _,Nat.le_refl _,rfl,World.grownBy.refl _ _⟩
 case round=>
  obtain ⟨k,op,out,hk,rfl,hO,hP,Y,f9,j8,HS,D⟩:=hrel;obtain ⟨pa,i2,a8,j4,j5⟩:=bD hP;obtain ⟨oa,c0,X,j7,j0⟩:=bD hO;rw [List.length_reverse] at a8
  by_cases d6:k<doc.length
  ·obtain ⟨b,off,i1,tv,g7,hb,hp⟩:=(hv.K D).at k d6;cases g7;have h5:=hp.k;have ha:=aDE doc[k].k wr;have S:=aJn doc k d6 op out;have b1:=aLj doc k d6 op out;have b5:=zV doc[k].k;generalize ar doc[k].k=n at ha S b1 b5;generalize doc[k].k=kk at h5 ha;clear hv hp
   by_cases b7:op.length<n
   ·have HB:Hid (kE doc 0 [] []=(out,op)):=(by unfold Hid;rw [<- HS.out];exact S b7);clear S b1 b5 HS
    by_cases E:op.length=1
    ·have e1:((op.length:Int) != 1)=false:=(by simp;omega);have HF:Hid (cK doc=out):=(by unfold Hid cK;rw [HB.out,if_pos E]);clear E;subst a8 X
     go_wp2_with fail
     refine ha.mono ?_;rintro e w1 ⟨rfl,rfl⟩;go_wp2;go_ret;exact ⟨.slice oa out.length c0,rfl,by rw [HF.out];exact hO,D⟩
    ·have e1:((op.length:Int) != 1)=true:=(by simp;omega);have HF:Hid (cK doc=[]):=(by unfold Hid cK;rw [HB.out,if_neg E]);clear E;subst a8 X
     go_wp2_with fail
     refine ha.mono ?_;rintro e w1 ⟨rfl,rfl⟩;go_wp2;go_ret;exact ⟨_,rfl,by rw [HF.out];exact World.ownsRow_nil _ _ _ _,D⟩
   ·obtain ⟨m,hm⟩:∃ m,op.length=m+n:=⟨op.length - n,by omega⟩;have U:=b1 b7;rcases hP.2 with ⟨h8,f8⟩ | ⟨g,cp,j2,a9,j1,h9,c5,g0,f7,h7⟩
    ·have h6:op=[]:=(by simpa using f8);subst h6;have c9:n=0:=(by simp at hm;omega);subst c9
     have b0:Hid (kE (doc.drop (k+1)) (k+1) [(k:Int)] (out++[(k:Int)])=kE doc 0 [] []):=by
      unfold Hid;rw [<- HS.out,U k (by simp)];rfl
     have HC:Hid ([]++[(k:Int)]=[(k:Int)].reverse):=rfl;have HL:Hid (([]:List Int).length<=k):=Nat.zero_le _;subst h8 X;have hC:OwI w.heap.size wr (.slice none 0 0) []:=World.ownsRow_nil _ _ _ _;clear S b1 U b5 HS hP a8 hm f8;have N:=D.size
     go_wp2_with fail
     refine ha.mono ?_;rintro e w1 ⟨rfl,rfl⟩;clear ha
     go_wp2_with (first
      | (at_builtin;refine wpList_append_own_at _ rfl (.tmp 39) (.tmp 41) 47 rfl w.heap.size 3 i0 (.int .i64 0) 1 8 underlying47 hi a5 a4 Z rfl (by decide) _ _ _ rfl (World.ownsRow.alloc hC _) ⟨wr.heap.size,0,none⟩ 1 1 [.int .i64 k] rfl rfl (cell_one_new _ _ _) (by intro u G;simp at G;subst G;rfl) (by unfold maxLen;omega) (by omega) (by simp;omega) ?_;intro v2 w2 H A _ J;obtain ⟨P2,B2⟩:=cD (q:=.i64) (xs:=[k]) _ N hC H (by simp) A;obtain ⟨O2,j⟩:=lE hO Y A J;clear H A J;have G2:=B2.size)
      | (at_builtin;refine wpList_append_own_at _ rfl (.tmp 43) (.tmp 45) 47 rfl w.heap.size 3 i0 (.int .i64 0) 1 8 underlying47 hi a5 a4 Z rfl (by decide) _ _ _ rfl (World.ownsRow.alloc O2 _) ⟨w2.heap.size,0,none⟩ 1 1 [.int .i64 k] rfl rfl (cell_one_new _ _ _) (by intro u G;simp at G;subst G;rfl) (by unfold maxLen;omega) (by omega) (by simp;omega) ?_;intro v3 w3 L y _ O;obtain ⟨O3,B3⟩:=cD (q:=.i64) (xs:=[k]) _ (Nat.le_trans N G2) O2 L (by simp) y;obtain ⟨P3,M⟩:=lE P2 (fun g E h2=>j g h2 E) y O;clear L y O P2 O2 j))
     go_roundw
     case rel=>exact ⟨k+1,_,_,by omega,by go_num,O3,HC.out ▸ P3,fun g E h2=>M g h2 E,by have:=HL.out;simp<;>omega,by simp<;>omega,b0,aC ((aO D).trans (B2.trans B3))⟩
     case measure=>simp [intOf];omega
    ·have b6:op.reverse.length=op.length:=(by simp);rw [b6] at a9;rw [a9] at hP Y;have d4:wr.ownsRow w.heap.size 3 1 (.slice (some ⟨g,0,none⟩) op.length cp) op.length (op.reverse.map (Value.int .i64)):=(by have:=hP;unfold OwI Ow at this;rw [b6] at this;exact this);have c4:=aC6 d4 (m:=m) (by omega);have e1:(op.drop n).reverse.length=m:=by simp;omega
     have hC:OwI w.heap.size wr (.slice (some ⟨g,0,none⟩) m cp) (op.drop n).reverse:=by
      unfold OwI Ow;rw [e1,<- aLp op n,show op.length - n=m by omega,List.map_take];simpa using c4
     have c3:∀ g',(Value.slice oa out.length c0).ownBlock=some g'->(Value.slice (some ⟨g,0,none⟩) m cp).ownBlock≠some g':=fun g' h=>Y g' (by rw [X];exact h);clear Y;have Y:=c3
     have c7:0<n->wr.cell? ⟨g,m,none⟩=some (.int .i64 (op[n - 1]?.getD 0)):=by
      intro c9;rw [World.ownsRow.cellAt d4 m (by omega),List.getElem?_map,<- aMR op n c9 (by omega),show op.length - n=m by omega];have:m<op.reverse.length:=by simp;omega
      rw [List.getElem?_eq_getElem this];rfl
     have f5:(op.drop n).reverse.length<=m:=Nat.le_of_eq e1;have j6:m<=k:=(by omega);have j3:m+n<=cp:=(by rw [b6] at c5;omega);have i9:m<=cp:=(by omega);clear c5;have g4:((m+n:Nat):Int)=(m:Int)+n:=(by omega);rw [hm] at a9;clear c3 h9 h7 f7 a8 e1 hP d4 c4 b6;unfold maxLen at g0
     by_cases h0:n=0
     ·subst h0
      have b0:Hid (kE (doc.drop (k+1)) (k+1) ((k:Int)::op.drop 0) (out++[(k:Int)])=kE doc 0 [] []):=by
       unfold Hid;rw [<- HS.out,U k (by simp)]
      have HC:Hid ((op.drop 0).reverse++[(k:Int)]=((k:Int)::op.drop 0).reverse):=(by unfold Hid;simp);have HL:Hid ((op.drop 0).length<=m):=(by unfold Hid;simpa using f5);clear S b1 U b5 HS c7 hm f9 b7 g4;generalize (op.drop 0)=oq at *;subst a9 X;have N:=D.size
      go_wp2_with fail
      refine ha.mono ?_;rintro e w1 ⟨rfl,rfl⟩;clear ha
      go_wp2_with (first
       | (at_builtin;refine wpList_append_own_at _ rfl (.tmp 39) (.tmp 41) 47 rfl w.heap.size 3 i0 (.int .i64 0) 1 8 underlying47 hi a5 a4 Z rfl (by decide) _ _ _ rfl (World.ownsRow.alloc hC _) ⟨wr.heap.size,0,none⟩ 1 1 [.int .i64 k] rfl rfl (cell_one_new _ _ _) (by intro u G;simp at G;subst G;rfl) (by unfold maxLen;omega) (by omega) (by simp;omega) ?_;intro v2 w2 H A _ J;obtain ⟨P2,B2⟩:=cD (q:=.i64) (xs:=[k]) _ N hC H (by simp) A;obtain ⟨O2,j⟩:=lE hO Y A J;clear H A J;have G2:=B2.size)
       | (at_builtin;refine wpList_append_own_at _ rfl (.tmp 43) (.tmp 45) 47 rfl w.heap.size 3 i0 (.int .i64 0) 1 8 underlying47 hi a5 a4 Z rfl (by decide) _ _ _ rfl (World.ownsRow.alloc O2 _) ⟨w2.heap.size,0,none⟩ 1 1 [.int .i64 k] rfl rfl (cell_one_new _ _ _) (by intro u G;simp at G;subst G;rfl) (by unfold maxLen;omega) (by omega) (by simp;omega) ?_;intro v3 w3 L y _ O;obtain ⟨O3,B3⟩:=cD (q:=.i64) (xs:=[k]) _ (Nat.le_trans N G2) O2 L (by simp) y;obtain ⟨P3,M⟩:=lE P2 (fun g E h2=>j g h2 E) y O;clear L y O P2 O2 j))
      go_roundw
      case rel=>exact ⟨k+1,_,_,by omega,by go_num,O3,HC.out ▸ P3,fun g E h2=>M g h2 E,by have:=HL.out;simp<;>omega,by simp<;>omega,b0,aC ((aO D).trans (B2.trans B3))⟩
      case measure=>simp [intOf];omega
     ·have i8:=c7 (by omega)
      have b0:Hid (kE (doc.drop (k+1)) (k+1) (op[n - 1]?.getD 0::op.drop n) (out++[op[n - 1]?.getD 0])=kE doc 0 [] []):=by
       unfold Hid;rw [<- HS.out,U (op[n - 1]?.getD 0) (by rw [if_neg h0])]
      have HC:Hid ((op.drop n).reverse++[op[n - 1]?.getD 0]=(op[n - 1]?.getD 0::op.drop n).reverse):=(by unfold Hid;simp);have HL:Hid ((op.drop n).length<=m):=(by unfold Hid;simpa using f5);clear S b1 U HS c7 hm f9 b7 g4;generalize (op.drop n)=oq at *;generalize op[n - 1]?.getD 0=s at *;rcases b5 with rfl | rfl | rfl
      ·exact absurd rfl h0
      ·clear h0;subst a9 X;have N:=D.size
       go_wp2_with fail
       refine ha.mono ?_;rintro e w1 ⟨rfl,rfl⟩;clear ha
       go_wp2_with (first
        | (at_builtin;refine wpList_append_own_at _ rfl (.tmp 39) (.tmp 41) 47 rfl w.heap.size 3 i0 (.int .i64 0) 1 8 underlying47 hi a5 a4 Z rfl (by decide) _ _ _ rfl (World.ownsRow.alloc hC _) ⟨wr.heap.size,0,none⟩ 1 1 [.int .i64 s] rfl rfl (cell_one_new _ _ _) (by intro u G;simp at G;subst G;rfl) (by unfold maxLen;omega) (by omega) (by simp;omega) ?_;intro v2 w2 H A _ J;obtain ⟨P2,B2⟩:=cD (q:=.i64) (xs:=[s]) _ N hC H (by simp) A;obtain ⟨O2,j⟩:=lE hO Y A J;clear H A J;have G2:=B2.size)
        | (at_builtin;refine wpList_append_own_at _ rfl (.tmp 43) (.tmp 45) 47 rfl w.heap.size 3 i0 (.int .i64 0) 1 8 underlying47 hi a5 a4 Z rfl (by decide) _ _ _ rfl (World.ownsRow.alloc O2 _) ⟨w2.heap.size,0,none⟩ 1 1 [.int .i64 s] rfl rfl (cell_one_new _ _ _) (by intro u G;simp at G;subst G;rfl) (by unfold maxLen;omega) (by omega) (by simp;omega) ?_;intro v3 w3 L y _ O;obtain ⟨O3,B3⟩:=cD (q:=.i64) (xs:=[s]) _ (Nat.le_trans N G2) O2 L (by simp) y;obtain ⟨P3,M⟩:=lE P2 (fun g E h2=>j g h2 E) y O;clear L y O P2 O2 j))
       go_roundw
       case rel=>exact ⟨k+1,_,_,by omega,by go_num,O3,HC.out ▸ P3,fun g E h2=>M g h2 E,by have:=HL.out;simp<;>omega,by simp<;>omega,b0,aC ((aO D).trans (B2.trans B3))⟩
       case measure=>simp [intOf];omega
      ·clear h0;subst a9 X;have N:=D.size
       go_wp2_with fail
       refine ha.mono ?_;rintro e w1 ⟨rfl,rfl⟩;clear ha
       go_wp2_with (first
        | (at_builtin;refine wpList_append_own_at _ rfl (.tmp 39) (.tmp 41) 47 rfl w.heap.size 3 i0 (.int .i64 0) 1 8 underlying47 hi a5 a4 Z rfl (by decide) _ _ _ rfl (World.ownsRow.alloc hC _) ⟨wr.heap.size,0,none⟩ 1 1 [.int .i64 s] rfl rfl (cell_one_new _ _ _) (by intro u G;simp at G;subst G;rfl) (by unfold maxLen;omega) (by omega) (by simp;omega) ?_;intro v2 w2 H A _ J;obtain ⟨P2,B2⟩:=cD (q:=.i64) (xs:=[s]) _ N hC H (by simp) A;obtain ⟨O2,j⟩:=lE hO Y A J;clear H A J;have G2:=B2.size)
        | (at_builtin;refine wpList_append_own_at _ rfl (.tmp 43) (.tmp 45) 47 rfl w.heap.size 3 i0 (.int .i64 0) 1 8 underlying47 hi a5 a4 Z rfl (by decide) _ _ _ rfl (World.ownsRow.alloc O2 _) ⟨w2.heap.size,0,none⟩ 1 1 [.int .i64 s] rfl rfl (cell_one_new _ _ _) (by intro u G;simp at G;subst G;rfl) (by unfold maxLen;omega) (by omega) (by simp;omega) ?_;intro v3 w3 L y _ O;obtain ⟨O3,B3⟩:=cD (q:=.i64) (xs:=[s]) _ (Nat.le_trans N G2) O2 L (by simp) y;obtain ⟨P3,M⟩:=lE P2 (fun g E h2=>j g h2 E) y O;clear L y O P2 O2 j))
       go_roundw
       case rel=>exact ⟨k+1,_,_,by omega,by go_num,O3,HC.out ▸ P3,fun g E h2=>M g h2 E,by have:=HL.out;simp<;>omega,by simp<;>omega,b0,aC ((aO D).trans (B2.trans B3))⟩
       case measure=>simp [intOf];omega
  ·have g8:k=doc.length:=(by omega);have HB:Hid (kE doc 0 [] []=(out,op)):=by unfold Hid;rw [<- HS.out,g8];simp [kE]
   by_cases E:op.length=1
   ·have e1:((op.length:Int) != 1)=false:=(by simp;omega);have HF:Hid (cK doc=out):=(by unfold Hid cK;rw [HB.out,if_pos E]);clear E;subst a8 X;go_wp2;go_ret;exact ⟨_,rfl,by rw [HF.out];exact hO,D⟩
   ·have e1:((op.length:Int) != 1)=true:=(by simp;omega);have HF:Hid (cK doc=[]):=(by unfold Hid cK;rw [HB.out,if_neg E]);clear E;subst a8 X;go_wp2;go_ret;exact ⟨_,rfl,by rw [HF.out];exact World.ownsRow_nil _ _ _ _,D⟩
theorem aFG {doc:List Pc} {j:Nat} {p:Pc} (h:doc[j]?=some p):∃ u:j<doc.length,doc[j]=p:=by
 obtain ⟨u,h⟩:=List.getElem?_eq_some_iff.1 h;exact ⟨u,h⟩
theorem aMY {B:Nat} {w:World} {v:Value} {st:List Int} {j:Nat} {x:Int} (h:RdI B w v st) (y:st[j]?=some x):∃ b off cap,v=.slice (some ⟨b,off,none⟩) st.length cap/\w.cell? ⟨b,off+j,none⟩=some (.int .i64 x):=by
 obtain ⟨u,E⟩:=List.getElem?_eq_some_iff.1 y;obtain ⟨a,cap,hv,D⟩:=h;obtain ⟨b,off,G,H,A⟩:=D (fun e=>by rw [e] at u;simp at u);have:=A j u;rw [y] at this;exact ⟨b,off,cap,by rw [hv,G],this⟩
structure Doc (doc:List Pc):Prop where
 len:doc.length<=1048576
 tlen:∀ p∈doc,p.t.length<=1048576
 sum:cR doc<=1048576
 bys:∀ p∈doc,Bys p.t
theorem eY (ind:Int) (w:World) (h0:0<=ind) (h1:ind<=4000) :
  Calls prog 40 #[.int .i64 ind] w fun e w'=>∃ L,e=.returned L/\OwB w.heap.size w' L (aJ ind)/\w.grownBy w' none:=by
 obtain ⟨i0,U,D,G,M⟩:=info_parts lL
 go_enter func40,ntmps40
 go_wp2
 go_loopw [3,4] (fun ov i wr=>∃ k:Nat,(k:Int)<=ind/\i=.int .i64 k/\OwB w.heap.size wr ov (10::List.replicate k 32)/\Below w.heap.size w wr)
  (fun _ i _=>ind.toNat - (intOf i).toNat)
 case atStart=>
  refine ⟨0,by omega,rfl,?_,(Below.refl _ _).alloc (Nat.le_refl _) _⟩;have:=World.ownsRow_lit (base:=w.heap.size) (e:=5) (size:=1) w #[.int .u8 10] 1 (Nat.le_refl _) (by unfold maxLen;omega) (by simp);simpa [OwB,Ow] using this
 case round=>
  obtain ⟨k,hk,rfl,A,y⟩:=hrel;have E:=y.size
  by_cases Z:(k:Int)<ind
  ·have hl:(10::List.replicate k (32:Int)).length=k+1:=(by simp);have X:(10::List.replicate k (32:Int)).length<=4001:=(by omega);have HS:Hid ((10::List.replicate k (32:Int))++[32]=10::List.replicate (k+1) 32):=(by unfold Hid;rw [List.cons_append,<- List.replicate_succ']);clear hl;obtain ⟨oa,N,J,_,_⟩:=bD A;generalize (10::List.replicate k (32:Int))=o at *;subst J
   go_wp2_with (at_builtin;refine wpList_append_own _ rfl _ _ 27 rfl w.heap.size 5 i0 (.int .u8 0) 1 1 underlying27 U D G M rfl (by decide) _ _ _ rfl (World.ownsRow.alloc A _) ⟨wr.heap.size,0,none⟩ 1 1 [.int .u8 32] rfl rfl (cell_one_new _ _ _) (by intro u O;simp at O;subst O;rfl) (by unfold maxLen;omega) (by omega) (by simp;omega) ?_;intro L w1 j h _)
   obtain ⟨Y,S⟩:=cD (q:=.u8) (xs:=[32]) _ E A j (by simp) h;clear j h A
   go_roundw
   case rel=>exact ⟨k+1,by omega,by go_num,by rw [<- HS.out];exact Y,y.trans S⟩
   case measure=>simp [intOf];omega
  ·have H:k=ind.toNat:=(by omega);have HN:Hid (aJ ind=10::List.replicate k 32):=(by unfold Hid aJ;rw [<- H]);go_wp2;go_ret;exact ⟨_,rfl,by rw [HN.out];exact A,aC y⟩
theorem fZ (t:List Int) : -1<=aH t/\aH t<=t.length:=by
 have:=aA6 t;unfold aH
 split<;>omega
end Go.Proofs.YtgifkcpdihphlaaGreatDoor
namespace Go.Proofs.YtgifkcpdihphlaaGreatDoor
open Tryz
def trs (its:List pZ):List Tr:=its.map (·.T)
theorem aEt (ind:Int) (h:ind<=4000):(aJ ind).length<=4001:=by
 unfold aJ;simp;omega
theorem oM (width:Int) (j:Option (List Int)):∀ (f u:Nat) (its:List pZ) (out met:List Int) (col:Int),szs (trs its)<f->szs (trs its)<u->lay width j f its out met col=lay width j u its out met col
 | 0,_,_,_,_,_,h,_=>by omega
 | _+1,0,_,_,_,_,_,h=>by omega
 | f+1,u+1,[],out,met,col,_,_=>by simp only [lay]
 | f+1,u+1,⟨.leaf p,n,ind⟩::rest,out,met,col,h1,h2=>by
   simp only [trs,List.map_cons,szs,sz] at h1 h2;have D:∀ o m c,lay width j f rest o m c=lay width j u rest o m c:=fun o m c=>oM width j f u rest o m c (by unfold trs;omega) (by unfold trs;omega);simp only [lay,D]
 | f+1,u+1,⟨.bin p x y,n,ind⟩::rest,out,met,col,h1,h2=>by
   simp only [trs,List.map_cons,szs,sz] at h1 h2
   have D:∀ o m c,lay width j f (⟨x,n,ind⟩::⟨y,n+bY x,ind⟩::rest) o m c=lay width j u (⟨x,n,ind⟩::⟨y,n+bY x,ind⟩::rest) o m c:=
    fun o m c=>oM width j f u _ o m c (by simp only [trs,List.map_cons,szs];omega) (by simp only [trs,List.map_cons,szs];omega)
   have A:∀ o m c,lay width j f (⟨x,n,ind⟩::rest) o m c=lay width j u (⟨x,n,ind⟩::rest) o m c:=
    fun o m c=>oM width j f u _ o m c (by simp only [trs,List.map_cons,szs];omega) (by simp only [trs,List.map_cons,szs];omega)
   simp only [lay,D,A]
 | f+1,u+1,⟨.un p x,n,ind⟩::rest,out,met,col,h1,h2=>by
   simp only [trs,List.map_cons,szs,sz] at h1 h2;have D:∀ o m c,lay width j f rest o m c=lay width j u rest o m c:=fun o m c=>oM width j f u rest o m c (by unfold trs;omega) (by unfold trs;omega)
   have A:∀ i o m c,lay width j f (⟨x,n,i⟩::rest) o m c=lay width j u (⟨x,n,i⟩::rest) o m c:=
    fun i o m c=>oM width j f u _ o m c (by simp only [trs,List.map_cons,szs];omega) (by simp only [trs,List.map_cons,szs];omega)
   simp only [lay,D,A]
end Go.Proofs.YtgifkcpdihphlaaGreatDoor
namespace Go.Proofs.YtgifkcpdihphlaaGreatDoor
open Tryz
open Go.RowKit
theorem bK (x:pZ) (its:List pZ):trs (x::its)=x.T::trs its:=rfl
def jZ (width:Int) (gs:Option (List Int)) (its:List pZ) (out met:List Int) (col:Int):Option (List Int × List Int):=lay width gs (szs (trs its)+1) its out met col
theorem pF {width:Int} {j:Option (List Int)} {f:Nat} {its:List pZ} {out met:List Int} {col:Int} (h:szs (trs its)<f):lay width j f its out met col=jZ width j its out met col:=
 oM width j f _ its out met col h (by omega)
theorem aJI (width:Int) (h:Option (List Int)) (out met:List Int) (col:Int):jZ width h [] out met col=some (out,met):=by simp [jZ,lay]
theorem aHu (width:Int) (j:Option (List Int)) (p:Pc) (n:Nat) (ind:Int) (rest:List pZ) (out met:List Int) (col:Int):jZ width j (⟨.leaf p,n,ind⟩::rest) out met col =
  if p.k=1 then jZ width j rest (out++p.t) met (col+aH p.t) else if p.k=5 then jZ width j rest (out++[10]) met 0
  else if p.k=2\/p.k=3\/p.k=4 then jZ width j rest (out++aJ ind) met ind else jZ width j rest out met col:=by
 rw [jZ,bK];simp only [lay,szs,sz];have h:∀ o m c,lay width j (p.t.length+1+szs (trs rest)) rest o m c=jZ width j rest o m c:=fun o m c=>pF (by omega);simp only [h]
theorem aH8 (width:Int) (h:Option (List Int)) (p:Pc) (x y:Tr) (n:Nat) (ind:Int) (rest:List pZ) (out met:List Int) (col:Int):jZ width h (⟨.bin p x y,n,ind⟩::rest) out met col =
  if p.k=6 then jZ width h (⟨x,n,ind⟩::⟨y,n+bY x,ind⟩::rest) out met col else jZ width h (⟨x,n,ind⟩::rest) out met col:=by
 rw [jZ,bK];simp only [lay,szs,sz]
 have u:∀ o m c,lay width h (p.t.length+1+(sz x+sz y)+szs (trs rest)) (⟨x,n,ind⟩::⟨y,n+bY x,ind⟩::rest) o m c=jZ width h (⟨x,n,ind⟩::⟨y,n+bY x,ind⟩::rest) o m c:=
  fun o m c=>pF (by simp only [bK,szs];omega)
 have j:∀ o m c,lay width h (p.t.length+1+(sz x+sz y)+szs (trs rest)) (⟨x,n,ind⟩::rest) o m c=jZ width h (⟨x,n,ind⟩::rest) o m c:=
  fun o m c=>pF (by simp only [bK,szs];omega)
 simp only [u,j]
theorem aKy (width:Int) (h:Option (List Int)) (p:Pc) (x:Tr) (n:Nat) (ind:Int) (rest:List pZ) (out met:List Int) (col:Int):jZ width h (⟨.un p x,n,ind⟩::rest) out met col =
  if p.k=7 then jZ width h (⟨x,n,ind+p.n⟩::rest) out met col
  else
   match h with
   | none=>
     match aE x [] with
     | some text=>
       if col+aH text+kB (rest.map (·.T))<=width then jZ width h rest (out++text) (qL (.un p x) n met) (col+aH text)
       else jZ width h (⟨x,n,ind⟩::rest) out (met.set (n+bY x) 2) col
     | none=>jZ width h (⟨x,n,ind⟩::rest) out (met.set (n+bY x) 2) col
   | some g=>
     if g[n+bY x]?.getD 0=1 then
      match aE x [] with
      | some text=>jZ width h rest (out++text) (qL (.un p x) n met) (col+aH text)
      | none=>none
     else if g[n+bY x]?.getD 0=2 then jZ width h (⟨x,n,ind⟩::rest) out (met.set (n+bY x) 2) col
     else none:=by
 rw [jZ,bK];simp only [lay,szs,sz]
 have u:∀ i o m c,lay width h (p.t.length+1+sz x+szs (trs rest)) (⟨x,n,i⟩::rest) o m c=jZ width h (⟨x,n,i⟩::rest) o m c:=
  fun i o m c=>pF (by simp only [bK,szs];omega)
 have j:∀ o m c,lay width h (p.t.length+1+sz x+szs (trs rest)) rest o m c=jZ width h rest o m c:=
  fun o m c=>pF (by omega)
 simp only [u,j];cases h with
 | none=>cases aE x []<;>rfl
 | some g=>cases aE x []<;>rfl
section
variable {doc:List Pc} {st:List Int} {gn:Nat} {its:List (pZ × Nat)} {out met:List Int} {col:Int} {n b:Nat} {ind:Int}
end
theorem tX:∀ (T:Tr),1<=sz T
 | .leaf _=>by simp only [sz];omega
 | .un _ _=>by simp only [sz];omega
 | .bin _ _ _=>by simp only [sz];omega
theorem aDf {P:Program} {w:World} (base:Nat) (t A e:TypeId) (i:TypeInfo) (size:Nat) (u:P.underlying t=some (.slice e)) (y:P.info? e=some i)
  (v:Value) (n:Nat) (xs:List Value) (h:w.ownsRow base e size v n xs) (c:Nat):(Builtin.append_ #[t,t] A #[v,.slice none 0 c]).run P w=.ok v w:=by
 rcases h.2 with ⟨rfl,rfl⟩ | ⟨g,cap,D,rfl,_,_,j,_⟩
 ·simp [Builtin.append_,run_underlying u,sizeOf,typeInfo,y,Builtin.lenOf,Builtin.firstCells]
 ·simp [Builtin.append_,run_underlying u,sizeOf,typeInfo,y,Builtin.lenOf,Builtin.firstCells,j,storeCells]
theorem xW (B B':Nat) (w:World) (v tv:Value) (ys t:List Int) (h:OwB B w v ys) (M:RdB B' w tv t) (hB:B<=w.heap.size) (hn:ys.length+t.length<=100000000000) :
  ∃ D w',(Builtin.append_ #[27,27] 27 #[v,tv]).run prog w=.ok D w'/\OwB B w' D (ys++t)/\w.grownBy w' v.ownBlock/\(D.ownBlock=v.ownBlock\/D.ownBlock=some w.heap.size):=by
 obtain ⟨U,S,H,L,N⟩:=info_parts lL;obtain ⟨a,cap,G,X⟩:=M;subst G;cases a with
 | none=>
   have ht:t=[]:=by
    rcases t with _ | ⟨z,zs⟩
    ·rfl
    ·obtain ⟨b,off,J,_⟩:=X (by simp);cases J
   subst ht;exact ⟨v,w,aDf B _ _ _ U 1 underlying27 S v _ _ h cap,by simpa using h,World.grownBy.refl _ _,.inl rfl⟩
 | some ad=>
   have A:∀ j u,(t.map (Value.int .u8))[j]?=some u->w.cell? (ad.add j)=some u:=by
    intro j u O;have y:j<t.length:=(by have:=(List.getElem?_eq_some_iff.1 O).1;simpa using this);obtain ⟨b2,Z,J,_,hc⟩:=X (fun e=>by rw [e] at y;simp at y);cases J;rw [Addr.add_lit,hc j y];simpa [y] using O
   obtain ⟨D,w',E,h1,h2,_,h4⟩:=run_append_own_at (P:=prog) w B 27 27 5 U (.int .u8 0) 1 1 underlying27 S H L N rfl (by decide) v ys.length (ys.map (Value.int .u8)) h ad t.length cap (t.map (Value.int .u8)) (by simp) A
    (by intro u Y;simp only [List.mem_map] at Y;obtain ⟨z,_,rfl⟩:=Y;rfl) (by unfold maxLen;omega) (by omega) hB
   exact ⟨D,w',E,by unfold OwB Ow;simpa using h1,h2,h4⟩
theorem sY {P:Program} {w:World} {ops:Array Oper} {rest:List Oper} {o:Oper} {a:Act} {Q:Exit->Act->World->Prop} (u:o.guard=none) (s x:Operand) (t:TypeId)
  (G:o.op=.call { callee:=.builtin .append,args:=#[s,x],argTypes:=#[t,t] }) (v A y:Value) (w':World) (H:a.eval s=v) (E:a.eval x=A)
  (j:(Builtin.append_ #[t,t] o.type #[v,A]).run P w=.ok y w') (h:wpList P ops Q rest (a.put o.dst y) w'):wpList P ops Q (o::rest) a w:=by
 refine wpList_plain u fun K D=>?_;unfold Oper.wp;simp only [execOp,G,resolve,invoke,builtin,Sem.run_bind,Sem.run_pure,Result.andThen_ok,List.map_toArray,List.map_cons,List.map_nil,H,E,j];exact D _ _ h
def aIH (B:Nat) (w:World) (r:Option (List Int)) (e:Ending) (w':World):Prop:=
 Below B w w'/\match r with
  | some o=>∃ v',e=.returned (.tuple #[v',.bool true])/\OwB B w' v' o
  | none=>e=.returned (.tuple #[.slice none 0 0,.bool false])
def mL (va sv:Value) (B:Nat) (doc:List Pc) (st:List Int) (T:Tr) (b:Nat):Prop:=
 ∀ (w:World) (ov:Value) (out:List Int),B<=w.heap.size->RdP B w va doc->RdI B w sv st->OwB B w ov out->out.length+sz T<=300000->
  Calls prog 72 #[va,sv,.int .i64 (b:Int),ov] w fun e w'=>aIH B w (aE T out) e w'
theorem RdP.belowB {B:Nat} {w w':World} {v:Value} {doc:List Pc} (h:RdP B w v doc) (G:Below B w w'):RdP B w' v doc:=by
 obtain ⟨a,cap,hv,h1,h2,X⟩:=h;refine ⟨a,cap,hv,h1,h2,fun M=>?_⟩;obtain ⟨b,off,S,u,Z⟩:=X M;refine ⟨b,off,S,u,fun j p Y=>?_⟩;obtain ⟨tv,y⟩:=Z j p Y;refine ⟨tv,(G.cell u).trans y.k,(G.cell u).trans y.t,(G.cell u).trans y.n,?_,y.sl⟩;obtain ⟨a2,D,J,L⟩:=y.rd;refine ⟨a2,D,J,fun M=>?_⟩;obtain ⟨O,E,H,A,N⟩:=L M;exact ⟨O,E,H,A,fun j U=>(G.cell A).trans (N j U)⟩
theorem RdI.belowB {B:Nat} {w w':World} {v:Value} {zs:List Int} (h:RdI B w v zs) (L:Below B w w'):RdI B w' v zs:=by
 obtain ⟨a2,u,H,G⟩:=h;refine ⟨a2,u,H,fun M=>?_⟩;obtain ⟨J,A,D,y,E⟩:=G M;exact ⟨J,A,D,y,fun j N=>(L.cell y).trans (E j N)⟩
theorem aHE (va sv:Value) (B:Nat) (doc:List Pc) (st:List Int) (hd:Doc doc) (N:∀ p∈doc,lY p=true) (p:Pc) (a b:Nat) (hs:Seg doc st (.leaf p) a b):mL va sv B doc st (.leaf p) b:=by
 intro w ov out hB hv a5 L c2;have f5:=hd.len;obtain ⟨rfl,hp,E,_⟩:=hs;obtain ⟨hj,S⟩:=aFG hp;obtain ⟨sa,d5,b3,_⟩:=id a5;obtain ⟨bl,off,cap,tv,c6,hb,D⟩:=hv.at a hj;rw [S] at D;have k0:=D.k;have t0:=D.t;have n0:=D.n;have M:p∈doc:=(by rw [<- S];exact List.getElem_mem hj);have a8:=(fE p).1 (N p M)
 have G:p.k=0\/p.k=1\/p.k=2\/p.k=3\/p.k=4\/p.k=5:=by
  have h6:¬ (p.k=6\/p.k=9):=(by intro h;unfold ar at E;rw [if_pos h] at E;cases E);have h7:¬ (p.k=7\/p.k=8):=(by intro h;unfold ar at E;rw [if_neg h6,if_pos h] at E;cases E);have:=a8.1;omega
 simp only [sz] at c2;have hg:w.grownBy (w.alloc (.cells #[.int .i64 p.k,tv,.int .i64 p.n] 74)) none:=gWA;have H:OwB B (w.alloc (.cells #[.int .i64 p.k,tv,.int .i64 p.n] 74)) ov out:=L.later hg;have U:B<=(w.alloc (.cells #[.int .i64 p.k,tv,.int .i64 p.n] 74)).heap.size:=Nat.le_trans hB hg.size;have A:Hid (Below B w (w.alloc (.cells #[.int .i64 p.k,tv,.int .i64 p.n] 74))):=(Below.refl B w).grown hg hB (fun k e=>by cases e);have y:=xW B B _ ov tv out p.t H (D.rd.K hg) U (by omega);obtain ⟨ta,b0,b9,_,_⟩:=D.sl;obtain ⟨oa,c8,b4,_,_⟩:=bD L;have Y:Hid (OwB B (w.alloc (.cells #[.int .i64 p.k,tv,.int .i64 p.n] 74)) ov out):=H;have c3:=World.ownsRow.lt L;clear hv a5 D S hp E M hd L H N a8;subst b9 c6 b3 b4;rw [show ((a+1:Nat):Int)=(a:Int)+1 by omega]
 by_cases j:p.k=0
 ·have J:Hid (aE (.leaf p) out=some out):=(by unfold Hid aE;rw [if_pos (by omega)]);have q0:(p.k==0)=true:=(by rw [j];rfl);have q1:(p.k==1)=false:=(by rw [j];rfl);have q2:(p.k==2)=false:=(by rw [j];rfl);have q3:(p.k==3)=false:=(by rw [j];rfl);have q4:(p.k==4)=false:=(by rw [j];rfl);have q5:(p.k==5)=false:=(by rw [j];rfl);have q6:(p.k==6)=false:=(by rw [j];rfl);clear j G y
  go_enter func72,ntmps72
  go_wp2;go_ret2;exact ⟨A.out,by rw [J.out];exact ⟨_,rfl,Y.out⟩⟩
 by_cases j:p.k=3
 ·have J:Hid (aE (.leaf p) out=some out):=(by unfold Hid aE;rw [if_pos (by omega)]);have q0:(p.k==0)=false:=(by rw [j];rfl);have q1:(p.k==1)=false:=(by rw [j];rfl);have q2:(p.k==2)=false:=(by rw [j];rfl);have q3:(p.k==3)=true:=(by rw [j];rfl);have q4:(p.k==4)=false:=(by rw [j];rfl);have q5:(p.k==5)=false:=(by rw [j];rfl);have q6:(p.k==6)=false:=(by rw [j];rfl);clear j G y
  go_enter func72,ntmps72
  go_wp2;go_ret2;exact ⟨A.out,by rw [J.out];exact ⟨_,rfl,Y.out⟩⟩
 by_cases j:p.k=4
 ·have J:Hid (aE (.leaf p) out=none):=(by unfold Hid aE;rw [if_neg (by omega),if_neg (by omega),if_neg (by omega)]);have q0:(p.k==0)=false:=(by rw [j];rfl);have q1:(p.k==1)=false:=(by rw [j];rfl);have q2:(p.k==2)=false:=(by rw [j];rfl);have q3:(p.k==3)=false:=(by rw [j];rfl);have q4:(p.k==4)=true:=(by rw [j];rfl);have q5:(p.k==5)=false:=(by rw [j];rfl);have q6:(p.k==6)=false:=(by rw [j];rfl);clear j G y
  go_enter func72,ntmps72
  go_wp2;go_ret2;exact ⟨A.out,by rw [J.out];rfl⟩
 by_cases j:p.k=5
 ·have J:Hid (aE (.leaf p) out=none):=(by unfold Hid aE;rw [if_neg (by omega),if_neg (by omega),if_neg (by omega)]);have q0:(p.k==0)=false:=(by rw [j];rfl);have q1:(p.k==1)=false:=(by rw [j];rfl);have q2:(p.k==2)=false:=(by rw [j];rfl);have q3:(p.k==3)=false:=(by rw [j];rfl);have q4:(p.k==4)=false:=(by rw [j];rfl);have q5:(p.k==5)=true:=(by rw [j];rfl);have q6:(p.k==6)=false:=(by rw [j];rfl);clear j G y
  go_enter func72,ntmps72
  go_wp2;go_ret2;exact ⟨A.out,by rw [J.out];rfl⟩
 by_cases j:p.k=1
 ·have J:Hid (aE (.leaf p) out=some (out++p.t)):=(by unfold Hid aE;rw [if_neg (by omega),if_pos j]);have q0:(p.k==0)=false:=(by rw [j];rfl);have q1:(p.k==1)=true:=(by rw [j];rfl);have q2:(p.k==2)=false:=(by rw [j];rfl);have q3:(p.k==3)=false:=(by rw [j];rfl);have q4:(p.k==4)=false:=(by rw [j];rfl);have q5:(p.k==5)=false:=(by rw [j];rfl);have q6:(p.k==6)=false:=(by rw [j];rfl);clear j G;obtain ⟨v',w',a4,h1,h2,h3⟩:=y;have HO:Hid (OwB B w' v' (out++p.t)):=h1;have c1:Hid (Below B w w'):=A.out.grown h2 U (fun k e=>(c3 k e).1);clear h1 h2 h3
  go_enter func72,ntmps72
  go_wp2_with (at_builtin;refine sY rfl _ _ 27 rfl _ _ _ _ rfl rfl a4 ?_)
  go_ret2;exact ⟨c1.out,by rw [J.out];exact ⟨_,rfl,HO.out⟩⟩
 have j:p.k=2:=(by omega);have J:Hid (aE (.leaf p) out=some (out++[32])):=(by unfold Hid aE;rw [if_neg (by omega),if_neg (by omega),if_pos j]);have q0:(p.k==0)=false:=(by rw [j];rfl);have q1:(p.k==1)=false:=(by rw [j];rfl);have q2:(p.k==2)=true:=(by rw [j];rfl);have q3:(p.k==3)=false:=(by rw [j];rfl);have q4:(p.k==4)=false:=(by rw [j];rfl);have q5:(p.k==5)=false:=(by rw [j];rfl);have q6:(p.k==6)=false:=(by rw [j];rfl);clear j G y;obtain ⟨i0,hi,c0,c4,c5⟩:=info_parts lL;have O:=Y.out
 go_enter func72,ntmps72
 go_wp2_with (at_builtin;refine wpList_append_own_at _ rfl _ _ 27 rfl B 5 i0 (.int .u8 0) 1 1 underlying27 hi c0 c4 c5 rfl (by decide) _ _ _ rfl (World.ownsRow.alloc O _) ⟨w.heap.size+1,0,none⟩ 1 1 [.int .u8 32] rfl rfl (by have:=cell_one_new (w.alloc (.cells #[.int .i64 p.k,.slice ta p.t.length b0,.int .i64 p.n] 74)) (.int .u8 32) 5;rw [World.size_alloc] at this;exact this) (by intro u hu;simp at hu;subst hu;rfl) (by unfold maxLen;omega) (by omega) (by simp;omega) ?_;intro v' w1 Z X _ D)
 go_ret2;obtain ⟨o2,b2⟩:=cD (q:=.u8) (xs:=[32]) _ U O Z (by simp) X;exact ⟨A.out.trans b2,by rw [J.out];exact ⟨_,rfl,o2⟩⟩
theorem aK4 (va sv:Value) (B:Nat) (doc:List Pc) (st:List Int) (hd:Doc doc) (p:Pc) (x:Tr) (a b:Nat) (hs:Seg doc st (.un p x) a b)
  (J:∀ m,Seg doc st x a m->Hid (mL va sv B doc st x m)):mL va sv B doc st (.un p x) b:=by
 intro w ov out hB hv y D X;have b8:=hd.len;obtain ⟨m,rfl,hp,G,_,hx⟩:=hs;have IH:=J m hx;have Y:=ar1 G;obtain ⟨hj,L⟩:=aFG hp;obtain ⟨sa,b6,M,_⟩:=id y;obtain ⟨oa,a6,N,_,_⟩:=bD D;obtain ⟨bl,off,cap,tv,a4,hb,h⟩:=hv.at m hj;rw [L] at h;have k0:=h.k;have t0:=h.t;have n0:=h.n;simp only [sz] at X;have E:w.grownBy (w.alloc (.cells #[.int .i64 p.k,tv,.int .i64 p.n] 74)) none:=gWA;have u:Hid (Below B w (w.alloc (.cells #[.int .i64 p.k,tv,.int .i64 p.n] 74))):=(Below.refl B w).grown E hB (fun k e=>by cases e);have U:=IH.out (w.alloc (.cells #[.int .i64 p.k,tv,.int .i64 p.n] 74)) ov out (Nat.le_trans hB E.size) (hv.K E) (y.K E) (D.later E) (by omega);obtain ⟨ta,b3,S,_,_⟩:=h.sl;have HF:Hid (aE (.un p x) out=aE x out):=rfl;have q0:(p.k==0)=false:=(by simp;omega);have q1:(p.k==1)=false:=(by simp;omega);have q2:(p.k==2)=false:=(by simp;omega);have q3:(p.k==3)=false:=(by simp;omega);have q4:(p.k==4)=false:=(by simp;omega);have q5:(p.k==5)=false:=(by simp;omega);have q6:(p.k==6)=false:=(by simp;omega);clear hv y h L hp G hx J IH E hd D Y;subst S a4 M N;rw [show ((m+1:Nat):Int)=(m:Int)+1 by omega]
 go_enter func72,ntmps72
 go_wp2_with fail
 refine U.mono ?_;intro e w2 h2;obtain ⟨O,H⟩:=h2;cases j:aE x out with
 | none=>
   rw [j] at H;simp only at H;subst H;have A:Hid (Below B w w2):=u.out.trans O;have Z:Hid (aE x out=none):=j;clear j O;go_wp2;go_ret2;exact ⟨A.out,by rw [HF.out,Z.out];rfl⟩
 | some o=>
   rw [j] at H;obtain ⟨v',h4,h5⟩:=H;subst h4;have A:Hid (Below B w w2):=u.out.trans O;have Z:Hid (aE x out=some o):=j;clear j O;go_wp2;go_ret2;exact ⟨A.out,by rw [HF.out,Z.out];exact ⟨_,rfl,h5⟩⟩
theorem aJk (va sv:Value) (B:Nat) (doc:List Pc) (st:List Int) (hd:Doc doc) (p:Pc) (x y:Tr) (a b:Nat) (hs:Seg doc st (.bin p x y) a b)
  (N:∀ m,Seg doc st x a m->Hid (mL va sv B doc st x m)) (S:∀ c m,Seg doc st y c m->Hid (mL va sv B doc st y m)):mL va sv B doc st (.bin p x y) b:=by
 intro w ov out hB hv a7 a4 d7;have g4:=hd.len;obtain ⟨c,m0,rfl,hp,c3,_,hx,hy⟩:=hs;obtain ⟨m,rfl⟩:∃ m,m0=m+1:=⟨m0 - 1,by have:=hy.lt;omega⟩;have j:=hy.last;simp only [Nat.add_sub_cancel] at j;have J:=S c (m+1) hy;have Y:=N c hx;have d8:=hy.lt;have d5:=ar2 c3;have g7:=(List.getElem?_eq_some_iff.1 j).1;obtain ⟨hj,b6⟩:=aFG hp;obtain ⟨sb,c0,g2,U,c2⟩:=aMY a7 j;obtain ⟨oa,f3,O,_,_⟩:=bD a4;simp only [sz] at d7;obtain ⟨bl,off,cap,tv,b7,hb,A⟩:=hv.at (m+1) hj;rw [b6] at A;have k0:=A.k;have t0:=A.t;have n0:=A.n;have hg:w.grownBy (w.alloc (.cells #[.int .i64 p.k,tv,.int .i64 p.n] 74)) none:=gWA;have X:Hid (Below B w (w.alloc (.cells #[.int .i64 p.k,tv,.int .i64 p.n] 74))):=(Below.refl B w).grown hg hB (fun k e=>by cases e);have Z:B<=(w.alloc (.cells #[.int .i64 p.k,tv,.int .i64 p.n] 74)).heap.size:=Nat.le_trans hB hg.size;have g1:(w.alloc (.cells #[.int .i64 p.k,tv,.int .i64 p.n] 74)).cell? ⟨sb,c0+m,none⟩=some (.int .i64 (c:Int)):=hg.cell c2 (by simp);have HV:Hid (RdP B (w.alloc (.cells #[.int .i64 p.k,tv,.int .i64 p.n] 74)) va doc):=hv.K hg;have G:Hid (RdI B (w.alloc (.cells #[.int .i64 p.k,tv,.int .i64 p.n] 74)) sv st):=a7.K hg;have M:Hid (OwB B (w.alloc (.cells #[.int .i64 p.k,tv,.int .i64 p.n] 74)) ov out):=a4.later hg;have L:=fun o=>jQ x out o;obtain ⟨ta,g3,b4,_,_⟩:=A.sl;have HF:Hid (aE (.bin p x y) out=if p.k=6 then (aE x out).bind (aE y) else aE y out):=rfl;have q0:(p.k==0)=false:=(by simp;omega);have q1:(p.k==1)=false:=(by simp;omega);have q2:(p.k==2)=false:=(by simp;omega);have q3:(p.k==3)=false:=(by simp;omega);have q4:(p.k==4)=false:=(by simp;omega);have q5:(p.k==5)=false:=(by simp;omega);have i2:(((m+1:Nat):Int)+1 - 2)=(m:Int):=(by omega);have g5:(((m+1:Nat):Int) - 1)=(m:Int):=(by omega);have f4:c<=m:=(by omega);clear hv a7 A b6 hp c3 hx hy N S hg hd j c2 a4 d8;rw [show ((m+1+1:Nat):Int)=((m+1:Nat):Int)+1 by omega];generalize m+1=t at *;rcases d5 with hk | hk
 ·have q6:(p.k==6)=true:=(by rw [hk];rfl);have c5:Hid (aE (.bin p x y) out=(aE x out).bind (aE y)):=(by unfold Hid;rw [HF.out,if_pos hk]);have a8:=Y.out (w.alloc (.cells #[.int .i64 p.k,tv,.int .i64 p.n] 74)) ov out Z HV.out G.out M.out (by omega);clear hk HF;subst b4 b7 U O
  go_enter func72,ntmps72
  go_wp2_with fail
  refine a8.mono ?_;intro e w2 h2;obtain ⟨b2,h3⟩:=h2;have b9:Hid (Below B w w2):=X.out.trans b2;cases u:aE x out with
  | none=>
    rw [u] at h3;simp only at h3;subst h3;have HN:Hid (aE (.bin p x y) out=none):=(by unfold Hid;rw [c5.out,u];rfl);clear u b2 a8 L;go_wp2;go_ret2;exact ⟨b9.out,by rw [HN.out];rfl⟩
  | some o=>
    rw [u] at h3;obtain ⟨v',h4,h5⟩:=h3;subst h4;have i1:=L o u;have HN:Hid (aE (.bin p x y) out=aE y o):=(by unfold Hid;rw [c5.out,u];rfl);have H:=J.out w2 v' o (Nat.le_trans Z b2.size) (HV.out.belowB b2) (RdI.belowB G.out b2) h5 (by omega);obtain ⟨h0,i4,d1,_,_⟩:=bD h5;clear u b2 a8 L J Y HV G M h5;subst d1
    go_wp2_with fail
    refine H.mono ?_;intro e w3 h6;obtain ⟨b3,E⟩:=h6;have D:Hid (Below B w w3):=b9.out.trans b3;clear H;cases h:aE y o with
    | none=>
      rw [h] at E;simp only at E;subst E;have HM:Hid (aE y o=none):=h;clear h b3;go_wp2;go_ret2;exact ⟨D.out,by rw [HN.out,HM.out];rfl⟩
    | some o2=>
      rw [h] at E;obtain ⟨v2,h8,h9⟩:=E;subst h8;have HM:Hid (aE y o=some o2):=h;clear h b3;go_wp2;go_ret2;exact ⟨D.out,by rw [HN.out,HM.out];exact ⟨_,rfl,h9⟩⟩
 ·have q6:(p.k==6)=false:=(by rw [hk];rfl);have b5:Hid (aE (.bin p x y) out=aE y out):=(by unfold Hid;rw [HF.out,if_neg (by omega)]);have H:=J.out (w.alloc (.cells #[.int .i64 p.k,tv,.int .i64 p.n] 74)) ov out Z HV.out G.out M.out (by omega);clear hk HF Y J HV G M L;subst b4 b7 U O
  go_enter func72,ntmps72
  go_wp2_with fail
  refine H.mono ?_;intro e w3 h6;obtain ⟨b3,E⟩:=h6;have D:Hid (Below B w w3):=X.out.trans b3;clear H;cases h:aE y out with
  | none=>
    rw [h] at E;simp only at E;subst E;have HM:Hid (aE y out=none):=h;clear h b3;go_wp2;go_ret2;exact ⟨D.out,by rw [b5.out,HM.out];rfl⟩
  | some o2=>
    rw [h] at E;obtain ⟨v2,h8,h9⟩:=E;subst h8;have HM:Hid (aE y out=some o2):=h;clear h b3;go_wp2;go_ret2;exact ⟨D.out,by rw [b5.out,HM.out];exact ⟨_,rfl,h9⟩⟩
theorem qJ (u j:Value) (B:Nat) (doc:List Pc) (st:List Int) (A:Doc doc) (h:∀ p∈doc,lY p=true) :
  ∀ (T:Tr) (a b:Nat),Seg doc st T a b->mL u j B doc st T b
 | .leaf p,a,b,hs=>aHE u j B doc st A h p a b hs
 | .un p x,a,b,hs=>aK4 u j B doc st A p x a b hs (fun m D=>qJ u j B doc st A h x a m D)
 | .bin p x y,a,b,hs=>aJk u j B doc st A p x y a b hs (fun m D=>qJ u j B doc st A h x a m D) (fun c m E=>qJ u j B doc st A h y c m E)
end Go.Proofs.YtgifkcpdihphlaaGreatDoor
