import Derived.Handy
import Derived.Test.YtckcaefnokeodaaGreatDoorMAC
set_option maxHeartbeats 16000000
set_option maxRecDepth 100000
namespace Go.Proofs.YtckcaefnokeodaaGreatDoor
open Go.Proofs.Tryz List World
def aP:Tr->Nat
 | .leaf _=>0
 | .un p x=>aP x+(if p.k=8 then 1 else 0)
 | .bin _ x y=>aP x+aP y
def grp (doc:List Pc) (i:Nat):Nat:=((doc.take i).filter (fun p=>p.k==8)).length
theorem aEc (h):grp h 0=0:=by simp [grp]
theorem wS (A:List Pc) (i:Nat) (h:i<A.length):grp A (i+1)=grp A i+(if A[i].k=8 then 1 else 0):=by
 unfold grp;rw [take_add_one,getElem?_eq_getElem h,filter_append,length_append];congr 1
 by_cases D:A[i].k=8
 .simp [D]
 .simp [D]
theorem aIn (h i):grp h i<=h.length:=by
 unfold grp;refine Nat.le_trans (length_filter_le _ _) ?_;rw [length_take];omega
theorem zV {A st} : ∀ {T:Tr} {a b:Nat},Seg A st T a b->grp A b=grp A a+aP T
 | .leaf p,a,b,h=>by
   obtain ⟨rfl,G,D,_⟩:=h;obtain ⟨F,E⟩:=List.getElem?_eq_some_iff.1 G;rw [wS A a F,E,if_neg (by intro e;rw [e] at D;simp [ar] at D)];simp [aP]
 | .un p x,a,b,h=>by
   obtain ⟨m,rfl,G,D,_,H⟩:=h;obtain ⟨F,E⟩:=List.getElem?_eq_some_iff.1 G;rw [wS A m F,E,zV H];simp only [aP];omega
 | .bin p x y,a,b,h=>by
   obtain ⟨c,m,rfl,G,D,_,H,I⟩:=h;obtain ⟨F,E⟩:=List.getElem?_eq_some_iff.1 G;rw [wS A m F,E,if_neg (by intro e;rw [e] at D;simp [ar] at D),zV I,zV H];simp only [aP];omega
def dZ:List Tr->Int
 | []=>0
 | T::r=>if (leadT T).2=true then (leadT T).1 else (leadT T).1+dZ r
def jE:Tr->Nat->List Int->List Int
 | .leaf _,_,met=>met
 | .un p x,n,met=>jE x n (if p.k=8 then met.set (n+aP x) 1 else met)
 | .bin p x y,n,met=>jE y (n+aP x) (if p.k=6 then jE x n met else met)
theorem kD:∀ (T:Tr) (n:Nat) (h:List Int),(jE T n h).length=h.length
 | .leaf _,_,_=>rfl
 | .un p x,n,h=>by
   simp only [jE];rw [kD]
   split<;>simp
 | .bin p x y,n,h=>by
   simp only [jE];rw [kD]
   split
   .exact kD x n h
   .rfl
def aO (ind:Int):List Int:=10::replicate ind.toNat 32
structure iF where
 T:Tr
 n:Nat
 ind:Int
def lay (width:Int) (given:Option (List Int)):Nat->List iF->List Int->List Int->Int->Option (List Int × List Int)
 | 0,_,_,_,_=>none
 | _+1,[],out,met,_=>some (out,met)
 | f+1,⟨.leaf p,_,ind⟩::rest,out,met,col=>
   if p.k=1 then lay width given f rest (out++p.t) met (col+aF p.t)
   else if p.k=5 then lay width given f rest (out++[10]) met 0
   else if p.k=2\/p.k=3\/p.k=4 then lay width given f rest (out++aO ind) met ind
   else lay width given f rest out met col
 | f+1,⟨.bin p x y,n,ind⟩::rest,out,met,col=>
   if p.k=6 then lay width given f (⟨x,n,ind⟩::⟨y,n+aP x,ind⟩::rest) out met col
   else lay width given f (⟨x,n,ind⟩::rest) out met col
 | f+1,⟨.un p x,n,ind⟩::rest,out,met,col=>
   if p.k=7 then lay width given f (⟨x,n,ind+p.n⟩::rest) out met col
   else
    match given with
    | none=>
      match aD x [] with
      | some text=>
        if col+aF text+dZ (rest.map (·.T))<=width then lay width given f rest (out++text) (jE (.un p x) n met) (col+aF text)
        else lay width given f (⟨x,n,ind⟩::rest) out (met.set (n+aP x) 2) col
      | none=>lay width given f (⟨x,n,ind⟩::rest) out (met.set (n+aP x) 2) col
    | some gs=>
      if gs[n+aP x]?.getD 0=1 then
       match aD x [] with
       | some text=>lay width given f rest (out++text) (jE (.un p x) n met) (col+aF text)
       | none=>none
      else if gs[n+aP x]?.getD 0=2 then lay width given f (⟨x,n,ind⟩::rest) out (met.set (n+aP x) 2) col
      else none
open Go.RowKit
theorem aD5 (k:Int) (w):Calls prog 125 #[.int .i64 k] w fun e G=>e=.returned (.int .i64 (ar k))/\w=G:=by
 by_cases A:k=6
 .subst A
  go_enter func125,ntmps125
  go_wp2;go_ret;exact ⟨rfl,rfl⟩
 by_cases E:k=9
 .subst E
  go_enter func125,ntmps125
  go_wp2;go_ret;exact ⟨rfl,rfl⟩
 by_cases D:k=7
 .subst D
  go_enter func125,ntmps125
  go_wp2;go_ret;exact ⟨rfl,rfl⟩
 by_cases h:k=8
 .subst h
  go_enter func125,ntmps125
  go_wp2;go_ret;exact ⟨rfl,rfl⟩
 have F:Hid (ar k=0):=(by unfold Hid ar;rw [if_neg (by omega),if_neg (by omega)]);have M:(k==6)=false:=(by simpa using A);have H:(k==7)=false:=(by simpa using D);have J:(k==8)=false:=(by simpa using h);have I:(k==9)=false:=by simpa using E
 go_enter func125,ntmps125
 go_wp2;go_ret;exact ⟨by rw [F.out];rfl,rfl⟩
theorem aDi {B} {w:World} {e A} {n m g D:Nat} {N} (h:w.ownsRow B e A (.slice (some ⟨g,0,none⟩) n D) n N) (S:m<=n) :
  w.ownsRow B e A (.slice (some ⟨g,0,none⟩) m D) m (N.take (m*A)):=by
 rcases h.2 with ⟨F,_⟩ | ⟨g',M,G,F,Z,O,Y,H,I,E⟩
 .simp at F
 .simp only [Value.slice.injEq,Option.some.injEq,Addr.mk.injEq,and_true,true_and] at F;obtain ⟨rfl,rfl⟩:=F;have J:m*A<=n*A:=Nat.mul_le_mul_right _ S;refine ⟨by rw [length_take,h.1];omega,.inr ⟨g,D,G,rfl,Z,O,by omega,H,I,?_⟩⟩;rw [<- E,take_take,Nat.min_eq_left J]
theorem aZ {B} {w:World} {e D n v M} (h:w.ownsRow B e D v n M):∃ a A,v=.slice a n A/\n<=A/\A<=maxLen:=by
 rcases h.2 with ⟨F,J⟩ | ⟨g,A,H,F,S,N,G,E,I,O⟩
 .exact ⟨_,0,by rw [F,J],by omega,by unfold maxLen;omega⟩
 .exact ⟨_,A,F,G,E⟩
theorem mG {B} {w N:World} {e A m E} {C G:Value} {H o} (J:w.ownsRow B e A E m H) (D:∀ g,E.ownBlock=some g->C.ownBlock≠some g) (O:(w.alloc o).grownBy N C.ownBlock) (F:G.ownBlock=C.ownBlock\/G.ownBlock=some (w.alloc o).heap.size):N.ownsRow B e A E m H/\∀ g,E.ownBlock=some g->G.ownBlock≠some g:=by
 refine ⟨ownsRow.kept (J.alloc o) O ?_,fun g M I=>?_⟩
 .cases h:E.ownBlock with
  | none=>exact .inl rfl
  | some g=>exact .inr (fun e=>D g h e.symm)
 .rcases F with h | h
  .exact D g M (by rw [<- h,I])
  .have:=ownsRow.lt J g M;rw [I] at h;simp at h;omega
theorem aKZ (op:List Int) (n:Nat):op.reverse.take (op.length - n)=(op.drop n).reverse:=by
 rw [reverse_drop]
theorem aM1 (op:List Int) (n:Nat) (h:0<n) (A:n<=op.length):op.reverse[op.length - n]?.getD 0=op[n - 1]?.getD 0:=by
 rw [getElem?_reverse (by omega)];congr 2;omega
theorem aIy (A:List Pc) (k:Nat) (E:k<A.length) (op:List Int) (D) (h:op.length<ar A[k].k):kO (A.drop k) k op D=(D,op):=by
 rw [drop_eq_getElem_cons E];simp only [kO];rw [if_pos h]
theorem aLm (A:List Pc) (k:Nat) (E:k<A.length) (op:List Int) (D) (h:¬ op.length<ar A[k].k) (s:Int) (F:s=if ar A[k].k=0 then (k:Int) else op[ar A[k].k - 1]?.getD 0) :
  kO (A.drop k) k op D=kO (A.drop (k+1)) (k+1) (s::op.drop (ar A[k].k)) (D++[s]):=by
 rw [drop_eq_getElem_cons E];simp only [kO];rw [if_neg h,F]
theorem xJ (v A) (w:World) (hv:RdP w.heap.size w v A) (hn:A.length<=1048576) :
  Calls prog 88 #[v] w fun e w'=>∃ v',e=.returned v'/\OwI w.heap.size w' v' (cI A)/\w.grownBy w' none:=by
 obtain ⟨i0,hi,a3,a6,a4⟩:=info_parts aAp;obtain ⟨a,j9,h6,_⟩:=id hv;subst h6
 go_enter func88,ntmps88
 go_wp2
 go_loopw [3,4,5] (fun ov pv i wr=>∃ (k:Nat) (op G:List Int),k<=A.length/\i=.int .i64 k/\OwI w.heap.size wr ov G/\OwI w.heap.size wr pv op.reverse/\(∀ g,ov.ownBlock=some g->pv.ownBlock≠some g)/\op.length<=k/\G.length<=k/\Hid (kO (A.drop k) k op G=kO A 0 [] [])/\w.grownBy wr none)
  (fun _ _ i _=>A.length - (intOf i).toNat)
 case atStart=>exact ⟨0,[],[],Nat.zero_le _,rfl,ownsRow_nil _ _ _ _,ownsRow_nil _ _ _ _,(fun g h=>by simp [Value.ownBlock] at h),Nat.le_refl _,Nat.le_refl _,rfl,grownBy.refl _ _⟩
 case round=>
  obtain ⟨k,op,G,hk,rfl,hO,hP,a5,g1,j8,HS,H⟩:=hrel;obtain ⟨pa,i4,a8,j1,k0⟩:=aZ hP;obtain ⟨oa,c4,a2,j2,j4⟩:=aZ hO;rw [length_reverse] at a8
  by_cases d4:k<A.length
  .obtain ⟨b,j5,i1,tv,h8,hb,hp⟩:=(hv.K H).at k d4;cases h8;have h5:=hp.k;have ha:=aD5 A[k].k wr;have a0:=aIy A k d4 op G;have b2:=aLm A k d4 op G;have b4:=aBp A[k].k;generalize ar A[k].k=n at ha a0 b2 b4;generalize A[k].k=kk at h5 ha;clear hv hp
   by_cases b7:op.length<n
   .have HB:Hid (kO A 0 [] []=(G,op)):=(by unfold Hid;rw [<- HS.out];exact a0 b7);clear a0 b2 b4 HS
    by_cases I:op.length=1
    .have e1:((op.length:Int) != 1)=false:=(by simp;omega);have HF:Hid (cI A=G):=(by unfold Hid cI;rw [HB.out,if_pos I]);clear I;subst a8 a2
     go_wp2_with fail
     refine ha.mono ?_;rintro e w1 ⟨rfl,rfl⟩;go_wp2;go_ret;exact ⟨.slice oa G.length c4,rfl,by rw [HF.out];exact hO,H⟩
    .have e1:((op.length:Int) != 1)=true:=(by simp;omega);have HF:Hid (cI A=[]):=(by unfold Hid cI;rw [HB.out,if_neg I]);clear I;subst a8 a2
     go_wp2_with fail
     refine ha.mono ?_;rintro e w1 ⟨rfl,rfl⟩;go_wp2;go_ret;exact ⟨_,rfl,by rw [HF.out];exact ownsRow_nil _ _ _ _,H⟩
   .obtain ⟨m,hm⟩:∃ m,op.length=m+n:=⟨op.length - n,by omega⟩;have a1:=b2 b7;rcases hP.2 with ⟨g6,f2⟩ | ⟨g,cp,j6,b1,j3,g4,c2,f8,f5,g5⟩
    .have g7:op=[]:=(by simpa using f2);subst g7;have d0:n=0:=(by simp at hm;omega);subst d0
     have b0:Hid (kO (A.drop (k+1)) (k+1) [(k:Int)] (G++[(k:Int)])=kO A 0 [] []):=by
      unfold Hid;rw [<- HS.out,a1 k (by simp)];rfl
     have HC:Hid ([]++[(k:Int)]=[(k:Int)].reverse):=rfl;have HL:Hid (([]:List Int).length<=k):=Nat.zero_le _;subst g6 a2;have hC:OwI w.heap.size wr (.slice none 0 0) []:=ownsRow_nil _ _ _ _;clear a0 b2 a1 b4 HS hP a8 hm f2;have M:=H.size
     go_wp2_with fail
     refine ha.mono ?_;rintro e w1 ⟨rfl,rfl⟩;clear ha
     go_wp2_with (first
      | (at_builtin;refine wpList_append_own_at _ rfl (.tmp 39) (.tmp 41) 35 rfl w.heap.size 3 i0 (.int .i64 0) 1 8 underlying35 hi a3 a6 a4 rfl (by decide) _ _ _ rfl (ownsRow.alloc hC _) ⟨wr.heap.size,0,none⟩ 1 1 [.int .i64 k] rfl rfl (cell_one_new _ _ _) (by intro u J;simp at J;subst J;rfl) (by unfold maxLen;omega) (by omega) (by simp;omega) ?_;intro v2 w2 Y F _ Z;obtain ⟨P2,B2⟩:=cG (q:=.i64) (xs:=[k]) _ M hC Y (by simp) F;obtain ⟨O2,D⟩:=mG hO a5 F Z;clear Y F Z;have G2:=B2.size)
      | (at_builtin;refine wpList_append_own_at _ rfl (.tmp 43) (.tmp 45) 35 rfl w.heap.size 3 i0 (.int .i64 0) 1 8 underlying35 hi a3 a6 a4 rfl (by decide) _ _ _ rfl (ownsRow.alloc O2 _) ⟨w2.heap.size,0,none⟩ 1 1 [.int .i64 k] rfl rfl (cell_one_new _ _ _) (by intro u J;simp at J;subst J;rfl) (by unfold maxLen;omega) (by omega) (by simp;omega) ?_;intro v3 w3 S E _ O;obtain ⟨O3,B3⟩:=cG (q:=.i64) (xs:=[k]) _ (Nat.le_trans M G2) O2 S (by simp) E;obtain ⟨P3,N⟩:=mG P2 (fun g I h2=>D g h2 I) E O;clear S E O P2 O2 D))
     go_roundw
     case rel=>exact ⟨k+1,_,_,by omega,by go_num,O3,HC.out ▸ P3,fun g I h2=>N g h2 I,by have:=HL.out;simp<;>omega,by simp<;>omega,b0,aC ((aV H).trans (B2.trans B3))⟩
     case measure=>simp [intOf];omega
    .have c0:op.reverse.length=op.length:=(by simp);rw [c0] at b1;rw [b1] at hP a5;have d8:wr.ownsRow w.heap.size 3 1 (.slice (some ⟨g,0,none⟩) op.length cp) op.length (op.reverse.map (Value.int .i64)):=(by have:=hP;unfold OwI Ow at this;rw [c0] at this;exact this);have c1:=aDi d8 (m:=m) (by omega);have e1:(op.drop n).reverse.length=m:=by simp;omega
     have hC:OwI w.heap.size wr (.slice (some ⟨g,0,none⟩) m cp) (op.drop n).reverse:=by
      unfold OwI Ow;rw [e1,<- aKZ op n,show op.length - n=m by omega,map_take];simpa using c1
     have c3:∀ g',(Value.slice oa G.length c4).ownBlock=some g'->(Value.slice (some ⟨g,0,none⟩) m cp).ownBlock≠some g':=fun g' h=>a5 g' (by rw [a2];exact h);clear a5;have a5:=c3
     have d3:0<n->wr.cell? ⟨g,m,none⟩=some (.int .i64 (op[n - 1]?.getD 0)):=by
      intro d0;rw [ownsRow.cellAt d8 m (by omega),getElem?_map,<- aM1 op n d0 (by omega),show op.length - n=m by omega];have:m<op.reverse.length:=by simp;omega
      rw [getElem?_eq_getElem this];rfl
     have f4:(op.drop n).reverse.length<=m:=Nat.le_of_eq e1;have j7:m<=k:=(by omega);have j0:m+n<=cp:=(by rw [c0] at c2;omega);have i2:m<=cp:=(by omega);clear c2;have f6:((m+n:Nat):Int)=(m:Int)+n:=(by omega);rw [hm] at b1;clear c3 g4 g5 f5 a8 e1 hP d8 c1 c0;unfold maxLen at f8
     by_cases h0:n=0
     .subst h0
      have b0:Hid (kO (A.drop (k+1)) (k+1) ((k:Int)::op.drop 0) (G++[(k:Int)])=kO A 0 [] []):=by
       unfold Hid;rw [<- HS.out,a1 k (by simp)]
      have HC:Hid ((op.drop 0).reverse++[(k:Int)]=((k:Int)::op.drop 0).reverse):=(by unfold Hid;simp);have HL:Hid ((op.drop 0).length<=m):=(by unfold Hid;simpa using f4);clear a0 b2 a1 b4 HS d3 hm g1 b7 f6;generalize (op.drop 0)=oq at *;subst b1 a2;have M:=H.size
      go_wp2_with fail
      refine ha.mono ?_;rintro e w1 ⟨rfl,rfl⟩;clear ha
      go_wp2_with (first
       | (at_builtin;refine wpList_append_own_at _ rfl (.tmp 39) (.tmp 41) 35 rfl w.heap.size 3 i0 (.int .i64 0) 1 8 underlying35 hi a3 a6 a4 rfl (by decide) _ _ _ rfl (ownsRow.alloc hC _) ⟨wr.heap.size,0,none⟩ 1 1 [.int .i64 k] rfl rfl (cell_one_new _ _ _) (by intro u J;simp at J;subst J;rfl) (by unfold maxLen;omega) (by omega) (by simp;omega) ?_;intro v2 w2 Y F _ Z;obtain ⟨P2,B2⟩:=cG (q:=.i64) (xs:=[k]) _ M hC Y (by simp) F;obtain ⟨O2,D⟩:=mG hO a5 F Z;clear Y F Z;have G2:=B2.size)
       | (at_builtin;refine wpList_append_own_at _ rfl (.tmp 43) (.tmp 45) 35 rfl w.heap.size 3 i0 (.int .i64 0) 1 8 underlying35 hi a3 a6 a4 rfl (by decide) _ _ _ rfl (ownsRow.alloc O2 _) ⟨w2.heap.size,0,none⟩ 1 1 [.int .i64 k] rfl rfl (cell_one_new _ _ _) (by intro u J;simp at J;subst J;rfl) (by unfold maxLen;omega) (by omega) (by simp;omega) ?_;intro v3 w3 S E _ O;obtain ⟨O3,B3⟩:=cG (q:=.i64) (xs:=[k]) _ (Nat.le_trans M G2) O2 S (by simp) E;obtain ⟨P3,N⟩:=mG P2 (fun g I h2=>D g h2 I) E O;clear S E O P2 O2 D))
      go_roundw
      case rel=>exact ⟨k+1,_,_,by omega,by go_num,O3,HC.out ▸ P3,fun g I h2=>N g h2 I,by have:=HL.out;simp<;>omega,by simp<;>omega,b0,aC ((aV H).trans (B2.trans B3))⟩
      case measure=>simp [intOf];omega
     .have i5:=d3 (by omega)
      have b0:Hid (kO (A.drop (k+1)) (k+1) (op[n - 1]?.getD 0::op.drop n) (G++[op[n - 1]?.getD 0])=kO A 0 [] []):=by
       unfold Hid;rw [<- HS.out,a1 (op[n - 1]?.getD 0) (by rw [if_neg h0])]
      have HC:Hid ((op.drop n).reverse++[op[n - 1]?.getD 0]=(op[n - 1]?.getD 0::op.drop n).reverse):=(by unfold Hid;simp);have HL:Hid ((op.drop n).length<=m):=(by unfold Hid;simpa using f4);clear a0 b2 a1 HS d3 hm g1 b7 f6;generalize (op.drop n)=oq at *;generalize op[n - 1]?.getD 0=s at *;rcases b4 with rfl | rfl | rfl
      .exact absurd rfl h0
      .clear h0;subst b1 a2;have M:=H.size
       go_wp2_with fail
       refine ha.mono ?_;rintro e w1 ⟨rfl,rfl⟩;clear ha
       go_wp2_with (first
        | (at_builtin;refine wpList_append_own_at _ rfl (.tmp 39) (.tmp 41) 35 rfl w.heap.size 3 i0 (.int .i64 0) 1 8 underlying35 hi a3 a6 a4 rfl (by decide) _ _ _ rfl (ownsRow.alloc hC _) ⟨wr.heap.size,0,none⟩ 1 1 [.int .i64 s] rfl rfl (cell_one_new _ _ _) (by intro u J;simp at J;subst J;rfl) (by unfold maxLen;omega) (by omega) (by simp;omega) ?_;intro v2 w2 Y F _ Z;obtain ⟨P2,B2⟩:=cG (q:=.i64) (xs:=[s]) _ M hC Y (by simp) F;obtain ⟨O2,D⟩:=mG hO a5 F Z;clear Y F Z;have G2:=B2.size)
        | (at_builtin;refine wpList_append_own_at _ rfl (.tmp 43) (.tmp 45) 35 rfl w.heap.size 3 i0 (.int .i64 0) 1 8 underlying35 hi a3 a6 a4 rfl (by decide) _ _ _ rfl (ownsRow.alloc O2 _) ⟨w2.heap.size,0,none⟩ 1 1 [.int .i64 s] rfl rfl (cell_one_new _ _ _) (by intro u J;simp at J;subst J;rfl) (by unfold maxLen;omega) (by omega) (by simp;omega) ?_;intro v3 w3 S E _ O;obtain ⟨O3,B3⟩:=cG (q:=.i64) (xs:=[s]) _ (Nat.le_trans M G2) O2 S (by simp) E;obtain ⟨P3,N⟩:=mG P2 (fun g I h2=>D g h2 I) E O;clear S E O P2 O2 D))
       go_roundw
       case rel=>exact ⟨k+1,_,_,by omega,by go_num,O3,HC.out ▸ P3,fun g I h2=>N g h2 I,by have:=HL.out;simp<;>omega,by simp<;>omega,b0,aC ((aV H).trans (B2.trans B3))⟩
       case measure=>simp [intOf];omega
      .clear h0;subst b1 a2;have M:=H.size
       go_wp2_with fail
       refine ha.mono ?_;rintro e w1 ⟨rfl,rfl⟩;clear ha
       go_wp2_with (first
        | (at_builtin;refine wpList_append_own_at _ rfl (.tmp 39) (.tmp 41) 35 rfl w.heap.size 3 i0 (.int .i64 0) 1 8 underlying35 hi a3 a6 a4 rfl (by decide) _ _ _ rfl (ownsRow.alloc hC _) ⟨wr.heap.size,0,none⟩ 1 1 [.int .i64 s] rfl rfl (cell_one_new _ _ _) (by intro u J;simp at J;subst J;rfl) (by unfold maxLen;omega) (by omega) (by simp;omega) ?_;intro v2 w2 Y F _ Z;obtain ⟨P2,B2⟩:=cG (q:=.i64) (xs:=[s]) _ M hC Y (by simp) F;obtain ⟨O2,D⟩:=mG hO a5 F Z;clear Y F Z;have G2:=B2.size)
        | (at_builtin;refine wpList_append_own_at _ rfl (.tmp 43) (.tmp 45) 35 rfl w.heap.size 3 i0 (.int .i64 0) 1 8 underlying35 hi a3 a6 a4 rfl (by decide) _ _ _ rfl (ownsRow.alloc O2 _) ⟨w2.heap.size,0,none⟩ 1 1 [.int .i64 s] rfl rfl (cell_one_new _ _ _) (by intro u J;simp at J;subst J;rfl) (by unfold maxLen;omega) (by omega) (by simp;omega) ?_;intro v3 w3 S E _ O;obtain ⟨O3,B3⟩:=cG (q:=.i64) (xs:=[s]) _ (Nat.le_trans M G2) O2 S (by simp) E;obtain ⟨P3,N⟩:=mG P2 (fun g I h2=>D g h2 I) E O;clear S E O P2 O2 D))
       go_roundw
       case rel=>exact ⟨k+1,_,_,by omega,by go_num,O3,HC.out ▸ P3,fun g I h2=>N g h2 I,by have:=HL.out;simp<;>omega,by simp<;>omega,b0,aC ((aV H).trans (B2.trans B3))⟩
       case measure=>simp [intOf];omega
  .have h7:k=A.length:=(by omega);have HB:Hid (kO A 0 [] []=(G,op)):=by unfold Hid;rw [<- HS.out,h7];simp [kO]
   by_cases I:op.length=1
   .have e1:((op.length:Int) != 1)=false:=(by simp;omega);have HF:Hid (cI A=G):=(by unfold Hid cI;rw [HB.out,if_pos I]);clear I;subst a8 a2;go_wp2;go_ret;exact ⟨_,rfl,by rw [HF.out];exact hO,H⟩
   .have e1:((op.length:Int) != 1)=true:=(by simp;omega);have HF:Hid (cI A=[]):=(by unfold Hid cI;rw [HB.out,if_neg I]);clear I;subst a8 a2;go_wp2;go_ret;exact ⟨_,rfl,by rw [HF.out];exact ownsRow_nil _ _ _ _,H⟩
theorem aFu {A:List Pc} {j:Nat} {p:Pc} (h:A[j]?=some p):∃ D:j<A.length,A[j]=p:=by
 obtain ⟨D,h⟩:=List.getElem?_eq_some_iff.1 h;exact ⟨D,h⟩
theorem aNh {B w v st} {j:Nat} {x:Int} (h:RdI B w v st) (F:st[j]?=some x):∃ b A D,v=.slice (some ⟨b,A,none⟩) st.length D/\w.cell? ⟨b,A+j,none⟩=some (.int .i64 x):=by
 obtain ⟨E,J⟩:=List.getElem?_eq_some_iff.1 F;obtain ⟨a,D,H,M⟩:=h;obtain ⟨b,A,I,N,G⟩:=M (fun e=>by rw [e] at E;simp at E);have:=G j E;rw [F] at this;exact ⟨b,A,D,by rw [H,I],this⟩
structure Doc (doc:List Pc):Prop where
 len:doc.length<=1048576
 tlen:∀ p∈doc,p.t.length<=1048576
 sum:cR doc<=1048576
 bys:∀ p∈doc,Bys p.t
theorem gH (t) : -1<=aF t/\aF t<=t.length:=by
 have:=aAy t;unfold aF
 split<;>omega
theorem aDp {P:Program} {w:World} (A t I) (e:TypeId) (i:TypeInfo) (D) (F:P.underlying t=some (.slice e)) (G:P.info? e=some i) (v n M) (h:w.ownsRow A e D v n M) (c:Nat):(Builtin.append_ #[t,t] I #[v,.slice none 0 c]).run P w=.ok v w:=by
 rcases h.2 with ⟨rfl,rfl⟩ | ⟨g,J,H,rfl,_,_,E,_⟩
 .simp [Builtin.append_,run_underlying F,sizeOf,typeInfo,G,Builtin.lenOf,Builtin.firstCells]
 .simp [Builtin.append_,run_underlying F,sizeOf,typeInfo,G,Builtin.lenOf,Builtin.firstCells,E,storeCells]
theorem yU (B B' w v tv F t) (h:OwB B w v F) (O:RdB B' w tv t) (hB:B<=w.heap.size) (hn:F.length+t.length<=100000000000) :
  ∃ E I,(Builtin.append_ #[22,22] 22 #[v,tv]).run prog w=.ok E I/\OwB B I E (F++t)/\w.grownBy I v.ownBlock/\(E.ownBlock=v.ownBlock\/E.ownBlock=some w.heap.size):=by
 obtain ⟨i0,hi,J,S,M⟩:=info_parts mA;obtain ⟨a,H,Y,hr⟩:=O;subst Y;cases a with
 | none=>
   have ht:t=[]:=by
    rcases t with _ | ⟨z,zs⟩
    .rfl
    .obtain ⟨b,a8,N,_⟩:=hr (by simp);cases N
   subst ht;exact ⟨v,w,aDp B _ _ _ i0 1 underlying22 hi v _ _ h H,by simpa using h,grownBy.refl _ _,.inl rfl⟩
 | some ad=>
   have D:∀ j u,(t.map (Value.int .u8))[j]?=some u->w.cell? (ad.add j)=some u:=by
    intro j u hj;have A:j<t.length:=(by have:=(List.getElem?_eq_some_iff.1 hj).1;simpa using this);obtain ⟨b2,a2,N,_,hc⟩:=hr (fun e=>by rw [e] at A;simp at A);cases N;rw [Addr.add_lit,hc j A];simpa [A] using hj
   obtain ⟨E,I,G,h1,h2,_,h4⟩:=run_append_own_at (P:=prog) w B 22 22 5 i0 (.int .u8 0) 1 1 underlying22 hi J S M rfl (by decide) v F.length (F.map (Value.int .u8)) h ad t.length H (t.map (Value.int .u8)) (by simp) D
    (by intro u Z;simp only [mem_map] at Z;obtain ⟨z,_,rfl⟩:=Z;rfl) (by unfold maxLen;omega) (by omega) hB
   exact ⟨E,I,G,by unfold OwB Ow;simpa using h1,h2,h4⟩
theorem tJ {P:Program} {w:World} {E A} {o:Oper} {a:Act} {Q:Exit->Act->World->Prop} (F:o.guard=none) (s x:Operand) (t:TypeId) (M:o.op=.call { callee:=.builtin .append,args:=#[s,x],argTypes:=#[t,t] }) (v H G:Value) (I:World) (O:a.eval s=v) (N:a.eval x=H) (D:(Builtin.append_ #[t,t] o.type #[v,H]).run P w=.ok G I) (h:wpList P E Q A (a.put o.dst G) I):wpList P E Q (o::A) a w:=by
 refine wpList_plain F fun K J=>?_;unfold Oper.wp;simp only [execOp,M,resolve,invoke,builtin,Sem.run_bind,Sem.run_pure,Result.andThen_ok,map_toArray,map_cons,map_nil,O,N,D];exact J _ _ h
def aJn (B:Nat) (w:World) (r:Option (List Int)) (e:Ending) (w':World):Prop:=
 Below B w w'/\match r with
  | some o=>∃ v',e=.returned (.tuple #[v',.bool true])/\OwB B w' v' o
  | none=>e=.returned (.tuple #[.slice none 0 0,.bool false])
def nP (va sv:Value) (B:Nat) (doc:List Pc) (st:List Int) (T:Tr) (b:Nat):Prop:=
 ∀ (w:World) (ov:Value) (out:List Int),B<=w.heap.size->RdP B w va doc->RdI B w sv st->OwB B w ov out->out.length+sz T<=300000->
  Calls prog 87 #[va,sv,.int .i64 (b:Int),ov] w fun e w'=>aJn B w (aD T out) e w'
theorem RdP.belowB {B w w' v G} (h:RdP B w v G) (I:Below B w w'):RdP B w' v G:=by
 obtain ⟨a,M,hv,h1,h2,hh⟩:=h;refine ⟨a,M,hv,h1,h2,fun Y=>?_⟩;obtain ⟨b,O,ha,A,hc⟩:=hh Y;refine ⟨b,O,ha,A,fun j p hp=>?_⟩;obtain ⟨tv,H⟩:=hc j p hp;refine ⟨tv,(I.cell A).trans H.k,(I.cell A).trans H.t,(I.cell A).trans H.n,?_,H.sl⟩;obtain ⟨a2,F,S,N⟩:=H.rd;refine ⟨a2,F,S,fun Y=>?_⟩;obtain ⟨b2,E,Z,D,J⟩:=N Y;exact ⟨b2,E,Z,D,fun j hj=>(I.cell D).trans (J j hj)⟩
theorem RdI.belowB {B w J v M} (h:RdI B w v M) (Z:Below B w J):RdI B J v M:=by
 obtain ⟨Y,A,G,H⟩:=h;refine ⟨Y,A,G,fun S=>?_⟩;obtain ⟨O,E,I,D,F⟩:=H S;exact ⟨O,E,I,D,fun j N=>(Z.cell D).trans (F j N)⟩
theorem aHI (va sv B N st) (hd:Doc N) (S:∀ p∈N,mX p=true) (p:Pc) (a b) (hs:Seg N st (.leaf p) a b):nP va sv B N st (.leaf p) b:=by
 intro w ov D hB hv b0 O c6;have f5:=hd.len;obtain ⟨rfl,hp,H,_⟩:=hs;obtain ⟨hj,a1⟩:=aFu hp;obtain ⟨sa,f1,b4,_⟩:=id b0;obtain ⟨bl,f9,g2,tv,c9,hb,G⟩:=hv.at a hj;rw [a1] at G;have k0:=G.k;have t0:=G.t;have n0:=G.n;have Z:p∈N:=(by rw [<- a1];exact getElem_mem hj);have a6:=(fR p).1 (S p Z)
 have I:p.k=0\/p.k=1\/p.k=2\/p.k=3\/p.k=4\/p.k=5:=by
  have h6:¬ (p.k=6\/p.k=9):=(by intro h;unfold ar at H;rw [if_pos h] at H;cases H);have h7:¬ (p.k=7\/p.k=8):=(by intro h;unfold ar at H;rw [if_neg h6,if_pos h] at H;cases H);have:=a6.1;omega
 simp only [sz] at c6;have hg:w.grownBy (w.alloc (.cells #[.int .i64 p.k,tv,.int .i64 p.n] 88)) none:=gWA;have J:OwB B (w.alloc (.cells #[.int .i64 p.k,tv,.int .i64 p.n] 88)) ov D:=O.later hg;have a4:B<=(w.alloc (.cells #[.int .i64 p.k,tv,.int .i64 p.n] 88)).heap.size:=Nat.le_trans hB hg.size;have F:Hid (Below B w (w.alloc (.cells #[.int .i64 p.k,tv,.int .i64 p.n] 88))):=(Below.refl B w).grown hg hB (fun k e=>by cases e);have E:=yU B B _ ov tv D p.t J (G.rd.K hg) a4 (by omega);obtain ⟨ta,b7,c4,_,_⟩:=G.sl;obtain ⟨oa,d5,a7,_,_⟩:=aZ O;have a2:Hid (OwB B (w.alloc (.cells #[.int .i64 p.k,tv,.int .i64 p.n] 88)) ov D):=J;have c7:=ownsRow.lt O;clear hv b0 G a1 hp H Z hd O J S a6;subst c4 c9 b4 a7;rw [show ((a+1:Nat):Int)=(a:Int)+1 by omega]
 by_cases A:p.k=0
 .have M:Hid (aD (.leaf p) D=some D):=(by unfold Hid aD;rw [if_pos (by omega)]);have q0:(p.k==0)=true:=(by rw [A];rfl);have q1:(p.k==1)=false:=(by rw [A];rfl);have q2:(p.k==2)=false:=(by rw [A];rfl);have q3:(p.k==3)=false:=(by rw [A];rfl);have q4:(p.k==4)=false:=(by rw [A];rfl);have q5:(p.k==5)=false:=(by rw [A];rfl);have q6:(p.k==6)=false:=(by rw [A];rfl);clear A I E
  go_enter func87,ntmps87
  go_wp2;go_ret2;exact ⟨F.out,by rw [M.out];exact ⟨_,rfl,a2.out⟩⟩
 by_cases A:p.k=3
 .have M:Hid (aD (.leaf p) D=some D):=(by unfold Hid aD;rw [if_pos (by omega)]);have q0:(p.k==0)=false:=(by rw [A];rfl);have q1:(p.k==1)=false:=(by rw [A];rfl);have q2:(p.k==2)=false:=(by rw [A];rfl);have q3:(p.k==3)=true:=(by rw [A];rfl);have q4:(p.k==4)=false:=(by rw [A];rfl);have q5:(p.k==5)=false:=(by rw [A];rfl);have q6:(p.k==6)=false:=(by rw [A];rfl);clear A I E
  go_enter func87,ntmps87
  go_wp2;go_ret2;exact ⟨F.out,by rw [M.out];exact ⟨_,rfl,a2.out⟩⟩
 by_cases A:p.k=4
 .have M:Hid (aD (.leaf p) D=none):=(by unfold Hid aD;rw [if_neg (by omega),if_neg (by omega),if_neg (by omega)]);have q0:(p.k==0)=false:=(by rw [A];rfl);have q1:(p.k==1)=false:=(by rw [A];rfl);have q2:(p.k==2)=false:=(by rw [A];rfl);have q3:(p.k==3)=false:=(by rw [A];rfl);have q4:(p.k==4)=true:=(by rw [A];rfl);have q5:(p.k==5)=false:=(by rw [A];rfl);have q6:(p.k==6)=false:=(by rw [A];rfl);clear A I E
  go_enter func87,ntmps87
  go_wp2;go_ret2;exact ⟨F.out,by rw [M.out];rfl⟩
 by_cases A:p.k=5
 .have M:Hid (aD (.leaf p) D=none):=(by unfold Hid aD;rw [if_neg (by omega),if_neg (by omega),if_neg (by omega)]);have q0:(p.k==0)=false:=(by rw [A];rfl);have q1:(p.k==1)=false:=(by rw [A];rfl);have q2:(p.k==2)=false:=(by rw [A];rfl);have q3:(p.k==3)=false:=(by rw [A];rfl);have q4:(p.k==4)=false:=(by rw [A];rfl);have q5:(p.k==5)=true:=(by rw [A];rfl);have q6:(p.k==6)=false:=(by rw [A];rfl);clear A I E
  go_enter func87,ntmps87
  go_wp2;go_ret2;exact ⟨F.out,by rw [M.out];rfl⟩
 by_cases A:p.k=1
 .have M:Hid (aD (.leaf p) D=some (D++p.t)):=(by unfold Hid aD;rw [if_neg (by omega),if_pos A]);have q0:(p.k==0)=false:=(by rw [A];rfl);have q1:(p.k==1)=true:=(by rw [A];rfl);have q2:(p.k==2)=false:=(by rw [A];rfl);have q3:(p.k==3)=false:=(by rw [A];rfl);have q4:(p.k==4)=false:=(by rw [A];rfl);have q5:(p.k==5)=false:=(by rw [A];rfl);have q6:(p.k==6)=false:=(by rw [A];rfl);clear A I;obtain ⟨v',w',b6,h1,h2,h3⟩:=E;have HO:Hid (OwB B w' v' (D++p.t)):=h1;have c5:Hid (Below B w w'):=F.out.grown h2 a4 (fun k e=>(c7 k e).1);clear h1 h2 h3
  go_enter func87,ntmps87
  go_wp2_with (at_builtin;refine tJ rfl _ _ 22 rfl _ _ _ _ rfl rfl b6 ?_)
  go_ret2;exact ⟨c5.out,by rw [M.out];exact ⟨_,rfl,HO.out⟩⟩
 have A:p.k=2:=(by omega);have M:Hid (aD (.leaf p) D=some (D++[32])):=(by unfold Hid aD;rw [if_neg (by omega),if_neg (by omega),if_pos A]);have q0:(p.k==0)=false:=(by rw [A];rfl);have q1:(p.k==1)=false:=(by rw [A];rfl);have q2:(p.k==2)=true:=(by rw [A];rfl);have q3:(p.k==3)=false:=(by rw [A];rfl);have q4:(p.k==4)=false:=(by rw [A];rfl);have q5:(p.k==5)=false:=(by rw [A];rfl);have q6:(p.k==6)=false:=(by rw [A];rfl);clear A I E;obtain ⟨i0,hi,c1,c3,c2⟩:=info_parts mA;have Y:=a2.out
 go_enter func87,ntmps87
 go_wp2_with (at_builtin;refine wpList_append_own_at _ rfl _ _ 22 rfl B 5 i0 (.int .u8 0) 1 1 underlying22 hi c1 c3 c2 rfl (by decide) _ _ _ rfl (ownsRow.alloc Y _) ⟨w.heap.size+1,0,none⟩ 1 1 [.int .u8 32] rfl rfl (by have:=cell_one_new (w.alloc (.cells #[.int .i64 p.k,.slice ta p.t.length b7,.int .i64 p.n] 88)) (.int .u8 32) 5;rw [size_alloc] at this;exact this) (by intro u hu;simp at hu;subst hu;rfl) (by unfold maxLen;omega) (by omega) (by simp;omega) ?_;intro v' w1 a3 a0 _ G)
 go_ret2;obtain ⟨o2,b2⟩:=cG (q:=.u8) (xs:=[32]) _ a4 Y a3 (by simp) a0;exact ⟨F.out.trans b2,by rw [M.out];exact ⟨_,rfl,o2⟩⟩
theorem aK8 (va sv B E st) (hd:Doc E) (p:Pc) (x:Tr) (a b) (hs:Seg E st (.un p x) a b) (Z:∀ m,Seg E st x a m->Hid (nP va sv B E st x m)):nP va sv B E st (.un p x) b:=by
 intro w ov A hB hv I H a4;have c9:=hd.len;obtain ⟨m,rfl,hp,M,_,hx⟩:=hs;have IH:=Z m hx;have a2:=ar1 M;obtain ⟨hj,N⟩:=aFu hp;obtain ⟨sa,b5,Y,_⟩:=id I;obtain ⟨oa,b8,S,_,_⟩:=aZ H;obtain ⟨bl,c4,c3,tv,a8,hb,D⟩:=hv.at m hj;rw [N] at D;have k0:=D.k;have t0:=D.t;have n0:=D.n;simp only [sz] at a4;have J:w.grownBy (w.alloc (.cells #[.int .i64 p.k,tv,.int .i64 p.n] 88)) none:=gWA;have F:Hid (Below B w (w.alloc (.cells #[.int .i64 p.k,tv,.int .i64 p.n] 88))):=(Below.refl B w).grown J hB (fun k e=>by cases e);have a3:=IH.out (w.alloc (.cells #[.int .i64 p.k,tv,.int .i64 p.n] 88)) ov A (Nat.le_trans hB J.size) (hv.K J) (I.K J) (H.later J) (by omega);obtain ⟨ta,b7,a7,_,_⟩:=D.sl;have HF:Hid (aD (.un p x) A=aD x A):=rfl;have q0:(p.k==0)=false:=(by simp;omega);have q1:(p.k==1)=false:=(by simp;omega);have q2:(p.k==2)=false:=(by simp;omega);have q3:(p.k==3)=false:=(by simp;omega);have q4:(p.k==4)=false:=(by simp;omega);have q5:(p.k==5)=false:=(by simp;omega);have q6:(p.k==6)=false:=(by simp;omega);clear hv I D N hp M hx Z IH J hd H a2;subst a7 a8 Y S;rw [show ((m+1:Nat):Int)=(m:Int)+1 by omega]
 go_enter func87,ntmps87
 go_wp2_with fail
 refine a3.mono ?_;intro e w2 h2;obtain ⟨b2,O⟩:=h2;cases h:aD x A with
 | none=>
   rw [h] at O;simp only at O;subst O;have G:Hid (Below B w w2):=F.out.trans b2;have HN:Hid (aD x A=none):=h;clear h b2;go_wp2;go_ret2;exact ⟨G.out,by rw [HF.out,HN.out];rfl⟩
 | some o=>
   rw [h] at O;obtain ⟨v',h4,h5⟩:=O;subst h4;have G:Hid (Below B w w2):=F.out.trans b2;have HN:Hid (aD x A=some o):=h;clear h b2;go_wp2;go_ret2;exact ⟨G.out,by rw [HF.out,HN.out];exact ⟨_,rfl,h5⟩⟩
theorem aHW (va sv B E st) (hd:Doc E) (p:Pc) (x y:Tr) (a b) (hs:Seg E st (.bin p x y) a b) (a1:∀ m,Seg E st x a m->Hid (nP va sv B E st x m)) (a0:∀ c m,Seg E st y c m->Hid (nP va sv B E st y m)):nP va sv B E st (.bin p x y) b:=by
 intro w ov h hB hv a7 a6 d7;have g7:=hd.len;obtain ⟨c,m0,rfl,hp,b6,_,hx,hy⟩:=hs;obtain ⟨m,rfl⟩:∃ m,m0=m+1:=⟨m0 - 1,by have:=hy.lt;omega⟩;have D:=hy.last;simp only [Nat.add_sub_cancel] at D;have Y:=a0 c (m+1) hy;have a5:=a1 c hx;have d2:=hy.lt;have f0:=ar2 b6;have i3:=(List.getElem?_eq_some_iff.1 D).1;obtain ⟨hj,c1⟩:=aFu hp;obtain ⟨sb,c2,g2,a2,c5⟩:=aNh a7 D;obtain ⟨oa,f6,Z,_,_⟩:=aZ a6;simp only [sz] at d7;obtain ⟨bl,i1,i5,O,c7,hb,G⟩:=hv.at (m+1) hj;rw [c1] at G;have k0:=G.k;have t0:=G.t;have n0:=G.n;have hg:w.grownBy (w.alloc (.cells #[.int .i64 p.k,O,.int .i64 p.n] 88)) none:=gWA;have a3:Hid (Below B w (w.alloc (.cells #[.int .i64 p.k,O,.int .i64 p.n] 88))):=(Below.refl B w).grown hg hB (fun k e=>by cases e);have a9:B<=(w.alloc (.cells #[.int .i64 p.k,O,.int .i64 p.n] 88)).heap.size:=Nat.le_trans hB hg.size;have f4:(w.alloc (.cells #[.int .i64 p.k,O,.int .i64 p.n] 88)).cell? ⟨sb,c2+m,none⟩=some (.int .i64 (c:Int)):=hg.cell c5 (by simp);have HV:Hid (RdP B (w.alloc (.cells #[.int .i64 p.k,O,.int .i64 p.n] 88)) va E):=hv.K hg;have H:Hid (RdI B (w.alloc (.cells #[.int .i64 p.k,O,.int .i64 p.n] 88)) sv st):=a7.K hg;have N:Hid (OwB B (w.alloc (.cells #[.int .i64 p.k,O,.int .i64 p.n] 88)) ov h):=a6.later hg;have S:=fun o=>kB x h o;obtain ⟨ta,g0,b9,_,_⟩:=G.sl;have HF:Hid (aD (.bin p x y) h=if p.k=6 then (aD x h).bind (aD y) else aD y h):=rfl;have q0:(p.k==0)=false:=(by simp;omega);have q1:(p.k==1)=false:=(by simp;omega);have q2:(p.k==2)=false:=(by simp;omega);have q3:(p.k==3)=false:=(by simp;omega);have q4:(p.k==4)=false:=(by simp;omega);have q5:(p.k==5)=false:=(by simp;omega);have h0:(((m+1:Nat):Int)+1 - 2)=(m:Int):=(by omega);have h1:(((m+1:Nat):Int) - 1)=(m:Int):=(by omega);have f3:c<=m:=(by omega);clear hv a7 G c1 hp b6 hx hy a1 a0 hg hd D c5 a6 d2;rw [show ((m+1+1:Nat):Int)=((m+1:Nat):Int)+1 by omega];generalize m+1=t at *;rcases f0 with hk | hk
 .have q6:(p.k==6)=true:=(by rw [hk];rfl);have c3:Hid (aD (.bin p x y) h=(aD x h).bind (aD y)):=(by unfold Hid;rw [HF.out,if_pos hk]);have a8:=a5.out (w.alloc (.cells #[.int .i64 p.k,O,.int .i64 p.n] 88)) ov h a9 HV.out H.out N.out (by omega);clear hk HF;subst b9 c7 a2 Z
  go_enter func87,ntmps87
  go_wp2_with fail
  refine a8.mono ?_;intro e w2 h2;obtain ⟨b2,h3⟩:=h2;have c0:Hid (Below B w w2):=a3.out.trans b2;cases F:aD x h with
  | none=>
    rw [F] at h3;simp only at h3;subst h3;have HN:Hid (aD (.bin p x y) h=none):=(by unfold Hid;rw [c3.out,F];rfl);clear F b2 a8 S;go_wp2;go_ret2;exact ⟨c0.out,by rw [HN.out];rfl⟩
  | some o=>
    rw [F] at h3;obtain ⟨v',h4,h5⟩:=h3;subst h4;have i7:=S o F;have HN:Hid (aD (.bin p x y) h=aD y o):=(by unfold Hid;rw [c3.out,F];rfl);have I:=Y.out w2 v' o (Nat.le_trans a9 b2.size) (HV.out.belowB b2) (RdI.belowB H.out b2) h5 (by omega);obtain ⟨i2,i4,d3,_,_⟩:=aZ h5;clear F b2 a8 S Y a5 HV H N h5;subst d3
    go_wp2_with fail
    refine I.mono ?_;intro e w3 h6;obtain ⟨b3,M⟩:=h6;have J:Hid (Below B w w3):=c0.out.trans b3;clear I;cases A:aD y o with
    | none=>
      rw [A] at M;simp only at M;subst M;have HM:Hid (aD y o=none):=A;clear A b3;go_wp2;go_ret2;exact ⟨J.out,by rw [HN.out,HM.out];rfl⟩
    | some o2=>
      rw [A] at M;obtain ⟨v2,h8,h9⟩:=M;subst h8;have HM:Hid (aD y o=some o2):=A;clear A b3;go_wp2;go_ret2;exact ⟨J.out,by rw [HN.out,HM.out];exact ⟨_,rfl,h9⟩⟩
 .have q6:(p.k==6)=false:=(by rw [hk];rfl);have b8:Hid (aD (.bin p x y) h=aD y h):=(by unfold Hid;rw [HF.out,if_neg (by omega)]);have I:=Y.out (w.alloc (.cells #[.int .i64 p.k,O,.int .i64 p.n] 88)) ov h a9 HV.out H.out N.out (by omega);clear hk HF a5 Y HV H N S;subst b9 c7 a2 Z
  go_enter func87,ntmps87
  go_wp2_with fail
  refine I.mono ?_;intro e w3 h6;obtain ⟨b3,M⟩:=h6;have J:Hid (Below B w w3):=a3.out.trans b3;clear I;cases A:aD y h with
  | none=>
    rw [A] at M;simp only at M;subst M;have HM:Hid (aD y h=none):=A;clear A b3;go_wp2;go_ret2;exact ⟨J.out,by rw [b8.out,HM.out];rfl⟩
  | some o2=>
    rw [A] at M;obtain ⟨v2,h8,h9⟩:=M;subst h8;have HM:Hid (aD y h=some o2):=A;clear A b3;go_wp2;go_ret2;exact ⟨J.out,by rw [b8.out,HM.out];exact ⟨_,rfl,h9⟩⟩
theorem pV (E D B h st) (F:Doc h) (A:∀ p∈h,mX p=true) :
  ∀ (T:Tr) (a b:Nat),Seg h st T a b->nP E D B h st T b
 | .leaf p,a,b,hs=>aHI E D B h st F A p a b hs
 | .un p x,a,b,hs=>aK8 E D B h st F p x a b hs (fun m G=>pV E D B h st F A x a m G)
 | .bin p x y,a,b,hs=>aHW E D B h st F p x y a b hs (fun m G=>pV E D B h st F A x a m G) (fun c m H=>pV E D B h st F A y c m H)
end Go.Proofs.YtckcaefnokeodaaGreatDoor
