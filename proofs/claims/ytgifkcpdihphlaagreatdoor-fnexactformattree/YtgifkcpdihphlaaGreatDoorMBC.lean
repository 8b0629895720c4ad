import Derived.Test.YtgifkcpdihphlaaGreatDoorMBB
set_option maxHeartbeats 16000000
set_option maxRecDepth 100000
namespace Go.Proofs.YtgifkcpdihphlaaGreatDoor
open Tryz
open Go.RowKit
theorem mP (v:Value) (zs:List Int) (w:World) (hv:RdB w.heap.size w v zs) (b2:Bys zs) (hn:zs.length<=4000000) :
  Calls prog 74 #[v] w fun e w'=>∃ v',e=.returned (.tuple #[v',.int .i64 (eM zs).2.1,.int .i64 (eM zs).2.2])/\OwI w.heap.size w' v' (eM zs).1/\w.grownBy w' none:=by
 obtain ⟨i0,hi,a7,a8,b1⟩:=info_parts aAH;obtain ⟨a,cap,rfl,hr⟩:=hv;have HV:Hid (RdB w.heap.size w (.slice a zs.length cap) zs):=⟨a,cap,rfl,hr⟩;clear hr
 go_enter func74,ntmps74
 go_wp2
 go_loopw [5,6] (fun v i wr=>∃ (k:Nat) (A:List Int),i=.int .i64 k/\OwI w.heap.size wr v A/\Mid zs A k/\Below w.heap.size w wr)
  (fun _ i _=>zs.length - (intOf i).toNat)
 case atStart=>exact ⟨0,[],rfl,World.ownsRow_nil _ _ _ _,Mid.start zs,Below.refl _ _⟩
 case round=>
  obtain ⟨k,A,rfl,D,E,G⟩:=hrel;have c3:=E.1;have b8:=E.2.1;have HM:Hid (Mid zs A k):=E;clear E
  by_cases S:k<zs.length
  ·obtain ⟨s,hs⟩:∃ s,s=zs.drop k:=⟨_,rfl⟩;have HS:Hid (s=zs.drop k):=hs;clear hs;have HR:Hid (RdB wr.heap.size wr (.slice a zs.length cap) zs):=HV.out.later (aC G);go_wp2
   go_loop [5,7,8] (fun o st i=>o=u5/\st=.int .i64 0/\∃ m:Nat,1<=m/\m<=5/\i=.int .i64 m/\Hid (∀ j,1<=j->j<m->hit s j=false))
    (fun _ _ i=>5 - (intOf i).toNat)
   case atStart=>exact ⟨rfl,rfl,1,by omega,by omega,rfl,fun j h1 h2=>by omega⟩
   case round=>
    obtain ⟨rfl,rfl,m,Z,c0,rfl,U⟩:=hrel
    by_cases Y:m<=4
    ·have N:=xT _ zs k m wr HR.out b2 (by omega) S Z Y;rw [<- HS.out] at N;have y:=N;clear N
     by_cases O:0<=lv s m
     ·cases hh:(cM (lv s m)==(m:Int))
      ·have L:Hid (∀ j,1<=j->j<m+1->hit s j=false):=vY U.out (by simp [hit,hh]);generalize lv s m=x at y O hh
       go_wp2_with (first
        | (go_at_call 108;refine y.mono ?_;rintro e w' ⟨rfl,rfl⟩)
        | (go_at_call 104;refine (jJ _ _).mono ?_;rintro e w' ⟨rfl,rfl⟩))
       go_round
       case rel=>exact ⟨rfl,rfl,m+1,by omega,by omega,by go_num,L⟩
       case measure=>simp [intOf];omega
      ·have X:Hid (aM s=m):=aEk Z Y U.out (by simp [hit,hh,O]);have b7:((m:Int)==0)=false:=by simp;omega
       have H:Hid (Mid zs (A++[lv s m]) (k+m)):=by
        have h:=HM.out.step S (by rw [<- HS.out,X.out];omega);rw [<- HS.out,X.out] at h;exact h
       have c2:k+m<=zs.length:=H.out.1;generalize lv s m=x at y O hh H
       go_wp2_with (first
        | (go_at_call 108;refine y.mono ?_;rintro e w' ⟨rfl,rfl⟩)
        | (go_at_call 104;refine (jJ _ _).mono ?_;rintro e w' ⟨rfl,rfl⟩)
        | (at_builtin;refine wpList_append_own _ rfl _ _ 47 rfl w.heap.size 3 i0 (.int .i64 0) 1 8 underlying47 hi a7 a8 b1 rfl (by decide) _ _ _ rfl (World.ownsRow.alloc D _) ⟨wr.heap.size,0,none⟩ 1 1 [.int .i64 x] rfl rfl (cell_one_new _ _ _) (by intro u hu;simp at hu;subst hu;rfl) (by unfold maxLen;omega) (by omega) (by have:=G.size;simp;omega) ?_;intro v' w1 M J _))
       have R:=cD (xs:=[x]) _ G.size D M (by simp) J;clear M J D y;go_wp2
       go_roundw
       case rel=>exact ⟨k+m,A++[x],by go_num,R.1,H.out,G.trans R.2⟩
       case measure=>simp [intOf];omega
     ·have L:Hid (∀ j,1<=j->j<m+1->hit s j=false):=vY U.out (by simp [hit];omega);generalize lv s m=x at y O;have b6:x<0:=by omega
      go_wp2_with (go_at_call 108;refine y.mono ?_;rintro e w' ⟨rfl,rfl⟩)
      go_round
      case rel=>exact ⟨rfl,rfl,m+1,by omega,by omega,by go_num,L⟩
      case measure=>simp [intOf];omega
    ·have X:Hid (aM s=0):=aAV (by omega) U.out
     have HD:Hid (eM zs=([],2,(k:Int))):=by
      refine HM.out.bad S ?_;rw [<- HS.out];exact X.out
     go_wp2
     go_ret3
     exact ⟨_,by rw [HD.out];rfl,by rw [HD.out];exact World.ownsRow_nil _ _ _ _,aC G⟩
  ·have HD:Hid (eM zs=(A,0,0)):=HM.out.done S;go_wp2
   go_ret3
   exact ⟨_,by rw [HD.out];rfl,by rw [HD.out];exact D,aC G⟩
theorem gN (v:Value) (zs:List Int) (w:World) (hv:RdB w.heap.size w v zs) (j:Bys zs) (E:zs.length<=4000000) :
  Calls prog 43 #[v] w fun e w'=>e=.returned (.int .i64 (aH zs))/\w.grownBy w' none:=by
 have M:=aA6 zs
 by_cases y:(eM zs).2.1=0
 ·have D:Hid (aH zs=((eM zs).1.length:Int)):=by unfold Hid aH;rw [if_pos y]
  go_enter func43,ntmps43
  go_wp2_with fail
  refine (mP v zs w hv j E).mono ?_;rintro e H ⟨J,rfl,u,A⟩;obtain ⟨a1,G,h,_⟩:=u.rd;rw [h];clear h u hv;go_wp2;go_ret;exact ⟨by rw [D.out];rfl,A⟩
 ·have D:Hid (aH zs = -1):=(by unfold Hid aH;rw [if_neg y]);have L:((eM zs).2.1 != 0)=true:=by simp [y]
  go_enter func43,ntmps43
  go_wp2_with fail
  refine (mP v zs w hv j E).mono ?_;rintro e H ⟨J,rfl,u,A⟩;clear u hv y;go_wp2;go_ret;exact ⟨by rw [D.out];rfl,A⟩
theorem aBB (out:List Int):∀ (k:Nat),k<=out.length->(∀ j,k<=j->j<out.length->out[j]?.getD 0≠10)->(k=0\/out[k - 1]?.getD 0=10)->fK [] out=out.drop k:=by
 intro k J A G
 have u:10 ∉ out.drop k:=by
  intro h;obtain ⟨j,E,D⟩:=List.getElem_of_mem h;rw [List.getElem_drop] at D;rw [List.length_drop] at E;have:=A (k+j) (by omega) (by omega);rw [List.getElem?_eq_getElem (by omega)] at this;exact this D
 conv=>lhs;rw [<- List.take_append_drop k out]
 rw [nA];rcases Nat.eq_zero_or_pos k with rfl | H
 ·rw [List.take_zero,List.drop_zero];rw [List.drop_zero] at u;simp only [fK];rw [nQ u];simp
 ·have y:out[k - 1]?.getD 0=10:=by rcases G with h | h;omega;exact h
  have e:out.take k=out.take (k - 1)++[10]:=by
   have:k - 1<out.length:=by omega
   conv=>lhs;rw [show k=(k - 1)+1 by omega]
   rw [dF out (k - 1) this,y]
  rw [e,nA];simp only [fK,if_true];rw [nQ u];simp
theorem pW (v:Value) (out:List Int) (w:World) (hv:RdB w.heap.size w v out) (hs:Sl v out.length) (O:Bys (fK [] out)) (hn:(fK [] out).length<=4000000) (hl:out.length<=1000000000) :
  Calls prog 42 #[v] w fun e w'=>e=.returned (.int .i64 (eE out))/\w.grownBy w' none:=by
 have HV:=aB hv;obtain ⟨a,cap,a5,c1,c3⟩:=id hs;subst a5;clear hs;have HW:Hid (∀ (u:Value) (zs:List Int),RdB w.heap.size w u zs->Bys zs->zs.length<=4000000->_):=fun u zs h1 X h3=>gN u zs w h1 X h3;have N:=aB O;have HN:=aB hn;clear hv O hn
 go_enter func42,ntmps42
 go_wp2
 go_loopw [3] (fun i W=>∃ (k:Nat),k<=out.length/\i=.int .i64 k/\w=W/\Hid (∀ j,k<=j->j<out.length->out[j]?.getD 0≠10)) (fun i _=>(intOf i).toNat)
 case atStart=>exact ⟨out.length,Nat.le_refl _,rfl,rfl,fun j h1 X=>by omega⟩
 case round=>
  obtain ⟨k,Z,rfl,rfl,D⟩:=hrel
  by_cases h0:k=0
  ·subst h0;have y:fK [] out=out:=(by have:=aBB out 0 (Nat.zero_le _) D.out (.inl rfl);simpa using this);have U:=aB (HW.out _ out HV.out (by have:=N.out;rw [y] at this;exact this) (by have:=HN.out;rw [y] at this;exact this));have S:Hid (eE out=aH out):=(by unfold Hid eE;rw [y]);clear y
   go_wp2_with fail
   refine U.out.mono ?_;rintro e w1 ⟨rfl,H⟩;go_wp2;go_ret;exact ⟨by rw [S.out];rfl,H⟩
  ·obtain ⟨b,off,ha,hb,hc⟩:∃ b off,a=some ⟨b,off,none⟩/\b<w.heap.size/\∀ j,j<out.length->w.cell? ⟨b,off+j,none⟩=some (.int .u8 (out[j]?.getD 0)):=by
    obtain ⟨a',b3,e,hr⟩:=HV.out;cases e;exact hr (fun e=>by rw [e] at Z;simp at Z;omega)
   subst ha;have b8:=hc (k - 1) (by omega)
   have L:Hid (∀ (A:Addr) (E:Nat),(out.length - k=0\/A=⟨b,off+k,none⟩)->RdB w.heap.size w (.slice (some A) (out.length - k) E) (out.drop k)):=fun A E h=>by
    refine ⟨some A,E,by rw [List.length_drop],fun J=>?_⟩;have b1:0<out.length - k:=(by rw [<- List.length_drop];exact List.length_pos_iff.2 J);rcases h with h | h
    ·omega
    ·refine ⟨b,off+k,by rw [h],hb,fun j Y=>?_⟩;rw [List.length_drop] at Y;rw [Nat.add_assoc,hc (k+j) (by omega)];simp [List.getElem?_drop]
   have HT:Hid (out[k - 1]?.getD 0=10->fK [] out=out.drop k):=fun h=>aBB out k Z D.out (.inr h)
   have M:Hid (out[k - 1]?.getD 0≠10->∀ j,k - 1<=j->j<out.length->out[j]?.getD 0≠10):=fun h j h1 X=>by
    by_cases Y:j=k - 1
    ·rw [Y];exact h
    ·exact D.out j (by omega) X
   clear hc HV;generalize out[k - 1]?.getD 0=z at *
   by_cases G:z=10
   ·subst G;have y:=HT.out rfl;have S:Hid (eE out=aH (out.drop k)):=(by unfold Hid eE;rw [y]);have U:Hid (∀ (A:Addr) (E:Nat),(out.length - k=0\/A=⟨b,off+k,none⟩)->Calls prog 43 #[.slice (some A) (out.length - k) E] w fun e w'=>e=.returned (.int .i64 (aH (out.drop k)))/\w.grownBy w' none):=fun A E h=>HW.out _ _ (L.out A E h) (by have:=N.out;rw [y] at this;exact this) (by have:=HN.out;rw [y] at this;exact this);clear y L HT M D
    go_wp2_with fail
    ·refine (U.out _ _ (.inl (by omega))).mono ?_;rintro e w1 ⟨rfl,H⟩;go_wp2;go_ret;exact ⟨by rw [S.out];rfl,H⟩
    ·refine (U.out _ _ (.inr rfl)).mono ?_;rintro e w1 ⟨rfl,H⟩;go_wp2;go_ret;exact ⟨by rw [S.out];rfl,H⟩
   ·have J:(z != 10)=true:=(by simpa using G);go_wp2;exact ⟨⟨k - 1,by omega,by congr 1;omega,trivial,M.out G⟩,by simp [intOf];omega⟩
end Go.Proofs.YtgifkcpdihphlaaGreatDoor
namespace Go.Proofs.YtgifkcpdihphlaaGreatDoor
open Tryz
open Go.RowKit
attribute [-go_sem] Builtin.append_
theorem aLe (t:Tre) (hD:iL t) (width ind bh level:Int) (s:List Int) (i:Nat) (hi:i<t.N.length) (hs:t.N[i].k<5\/(t.N[i].C=0/\t.N[i].tail=[])) (nv tv ov:Value) (out:List Int) (B:Nat) (w:World) (ho:Bw B w ov out) (hB:B<=w.heap.size)
  (hn:RdN B w nv t.N) (ht:RdC B w tv t.tail) (O:∀ W:World,dG W.heap.size W nv tv t->Calls prog 41 #[.agg #[nv,tv],.int .i64 i] W fun e w'=>eL W (some s) e w') (hl:out.length+s.length<=1000000000) :
  Calls prog 19 #[ov,.agg #[nv,tv],.int .i64 i,.agg #[.int .i64 width,.int .i64 ind,.int .i64 bh,.int .i64 level]] w fun e w'=>∃ v',e=.returned v'/\Bw B w' v' (out++s)/\bQ w w' ov v':=by
 have S:Hid (∀ W:World,w.grownBy W none->Calls prog 41 #[.agg #[nv,tv],.int .i64 i] W fun e w'=>eL W (some s) e w'):=fun W g=>O W ⟨((hn.K g).wide (Nat.le_trans hB g.size)),((ht.K g).wide (Nat.le_trans hB g.size))⟩;have HO:=aB ho;obtain ⟨ra,rc,f3,_,_⟩:=ho.sl;obtain ⟨na,b7,d7,_⟩:=id hn;obtain ⟨ta,c3,d2,_⟩:=id ht;obtain ⟨b,off,g3,lv,kv,xv,uv,qv,d1,j0,A⟩:=hn.at i hi;have d9:=hD.len;have z0:=A.k;have z1:=A.L;have z2:=A.mem;have z3:=A.key;have z4:=A.X;have z5:=A.U;have z6:=A.C;have z7:=A.tail;obtain ⟨la,c0,f7,_,_⟩:=A.rl.sl;obtain ⟨qa,M,g0,_,_⟩:=A.rt.sl;obtain ⟨ka,b9,c8,_,_⟩:=A.sk;obtain ⟨xa,c2,d6,_,_⟩:=A.sx;obtain ⟨ua,b8,d5,_,_⟩:=A.su;subst f7 g0 c8 d6 d5 d1 d2 f3;cases d7;clear hn ht A hD O ho;generalize t.N[i]=p at *;obtain ⟨wA,b0⟩:∃ wA,wA=(w.alloc (Obj.cells #[.slice (some ⟨b,off,none⟩) t.N.length b7,.slice ta t.tail.length c3] 33)).alloc (Obj.cells #[.int .i64 width,.int .i64 ind,.int .i64 bh,.int .i64 level] 52):=⟨_,rfl⟩;have H:w.grownBy wA none:=(by rw [b0];exact aA gWA gWA);have i7:=H.cell z0 (by simp);have i3:=H.cell z1 (by simp);have k2:=H.cell z2 (by simp);have k0:=H.cell z3 (by simp);have i5:=H.cell z4 (by simp);have k7:=H.cell z5 (by simp);have k8:=H.cell z6 (by simp);have j3:=H.cell z7 (by simp);have sA:wA.heap.size=w.heap.size+2:=(by rw [b0];simp);obtain ⟨W3,j⟩:∃ W3,W3=wA.alloc (Obj.cells #[.int .i64 p.k,.slice la p.L.length c0,.bool p.mem,.slice ka p.key.length b9,.slice xa p.X.length c2,.slice ua p.U.length b8,.int .i64 p.C,.slice qa p.tail.length M] 49):=⟨_,rfl⟩;have gg:w.grownBy W3 none:=(by rw [j];exact aA H gWA);have GG:=aB gg;have y0:W3.cell? ⟨w.heap.size+2,0,none⟩=some (.int .i64 p.k):=(by rw [j,<- sA];simp [go_sem]);have y6:W3.cell? ⟨w.heap.size+2,6,none⟩=some (.int .i64 p.C):=(by rw [j,<- sA];simp [go_sem]);have y7:W3.cell? ⟨w.heap.size+2,7,none⟩=some (.slice qa p.tail.length M):=(by rw [j,<- sA];simp [go_sem]);have Y:=aB (show _/\_/\_ from ⟨y0,y6,y7⟩);have HX:=aB (S.out W3 gg);have b2:=aB j;rw [j] at HX;clear z0 z1 z2 z3 z4 z5 z6 z7 j gg H y0 y6 y7 S;subst b0
 by_cases h5:p.k<5
 ·have f9:decide (p.k<5)=true:=(by simpa using h5);clear hs
  go_enter func19,ntmps19
  go_wp2_with fail
  refine HX.out.mono ?_;rintro e w4 ⟨v4,rfl,J,y⟩;have j:=b2.out;rw [<- j] at J y;clear j;have n0:=y.cell Y.out.1 (by simp);have n6:=y.cell Y.out.2.1 (by simp);have n7:=y.cell Y.out.2.2 (by simp);have f5:=y.size;have E:=aA GG.out y;have gd:w4.grownBy w4.drew none:=⟨rfl,rfl,rfl,Nat.le_refl _,fun _ _ _=>rfl⟩;have u:=aA E gd;obtain ⟨v5,w5,b4,o5,g5⟩:=fR B w4.drew _ v4 out s (HO.out.K u) (J.K gd).rd (Nat.le_trans hB u.size) (by omega);have Z:=aB ((bQ.ofg u _).trans g5);have a9:=aB o5;obtain ⟨a4,c4,D,_,_⟩:=J.sl;obtain ⟨a5,c5,G,_,_⟩:=o5.sl;generalize s.length=SL at D;generalize (out++s).length=L5 at G;subst D G;clear J o5 y g5 HX Y E gd u;go_wp2
  go_region
  all_goals
   go_wp2;go_ret;exact ⟨_,rfl,a9.out,Z.out⟩
 ·have f9:decide (p.k<5)=false:=(by simpa using h5);obtain ⟨hc,b6⟩:p.C=0/\p.tail=[]:=(by rcases hs with h | h;exact absurd h h5;exact h);have k6:(p.C==0)=true:=(by simpa using hc);have k3:((p.tail.length:Int)==0)=true:=(by rw [b6];rfl);clear hc b6 hs
  go_enter func19,ntmps19
  go_wp2_with fail
  refine HX.out.mono ?_;rintro e w4 ⟨v4,rfl,J,y⟩;have j:=b2.out;rw [<- j] at J y;clear j;have n0:=y.cell Y.out.1 (by simp);have n6:=y.cell Y.out.2.1 (by simp);have n7:=y.cell Y.out.2.2 (by simp);have f5:=y.size;have E:=aA GG.out y;have gd:w4.grownBy w4.drew none:=⟨rfl,rfl,rfl,Nat.le_refl _,fun _ _ _=>rfl⟩;have u:=aA E gd;obtain ⟨v5,w5,b4,o5,g5⟩:=fR B w4.drew _ v4 out s (HO.out.K u) (J.K gd).rd (Nat.le_trans hB u.size) (by omega);have Z:=aB ((bQ.ofg u _).trans g5);have a9:=aB o5;obtain ⟨a4,c4,D,_,_⟩:=J.sl;obtain ⟨a5,c5,G,_,_⟩:=o5.sl;generalize s.length=SL at D;generalize (out++s).length=L5 at G;subst D G;clear J o5 y g5 HX Y E gd u;go_wp2
  go_region
  all_goals
   go_wp2;go_ret;exact ⟨_,rfl,a9.out,Z.out⟩
end Go.Proofs.YtgifkcpdihphlaaGreatDoor
namespace Go.Proofs.YtgifkcpdihphlaaGreatDoor
open Tryz
theorem aIo (width:Int) (x:Tr) (level:Int) (out:List Int) (b:Int):LX width (.un ⟨8,[],0⟩ x) level out b=match aE x [] with | some s=>if eE out+aH s+b<=width then s else LX width x level out b | none=>LX width x level out b:=by
 unfold LX;simp only [ly];rw [if_neg (by omega)];cases aE x [] with
 | none=>rfl
 | some s=>simp only;split<;>rfl
theorem aIX (X:List Int) (ind:Int):fK [] (X++aJ ind)=List.replicate ind.toNat 32:=by
 unfold aJ;rw [nA,aFN,nQ (by simp)];rfl
theorem xI (ind:Int):∀ (h:List Cm) (X:List Int),fK [] (X++aJ ind++aP h ind)=List.replicate ind.toNat 32
 | [],X=>by simp only [aP,List.flatMap_nil,List.append_nil];exact aIX X ind
 | c::h,X=>by
   have:=xI ind h (X++aJ ind++jE c);rw [<- this];simp [aP]
theorem aH4 (n:Nat):Vt (List.replicate n 32):=jD (by intro x h;have:=List.eq_of_mem_replicate h;omega)
theorem aGl (X:List Int) (ind:Int) (n:Nod) (j:OkL (qK n)):Cu (X++aJ ind++aP n.L ind++lR n)/\(fK [] (X++aJ ind++aP n.L ind++lR n)).length<=ind.toNat+(lR n).length:=by
 have h:=xI ind n.L X;unfold Cu;rw [nA,h];unfold lR;unfold qK at j
 split
 ·rename_i hm
  rw [if_pos hm] at j;have h:OkT (bR (cO n.key++[58,32])):=j _ (by simp);obtain ⟨u,y⟩:=h rfl;rw [nQ y];exact ⟨kT (aH4 _) u,by simp⟩
 ·simp only [fK];exact ⟨aH4 _,by simp⟩
theorem aD0 {width:Int} {V:List Nod->Tr} {P:List Nod->List Pc × List Nod} {ind:Int} {o:List Int} {R u:List Nod} {n:Nod} {j:Nat} (h:aT P j R=n::u) :
  kK width V P ind o R (j+1)=((kK width V P ind o R j++aJ ind++aP n.L ind++lR n)++LX width (V (n::u)) ind (kK width V P ind o R j++aJ ind++aP n.L ind++lR n) 1)++[44]:=by
 simp only [kK,h,wrI]
theorem aHC (width:Int) (V:List Nod->Tr) (P:List Nod->List Pc × List Nod) (ind:Int) (o:List Int) (R:List Nod) (k:Nat):(kK width V P ind o R k).length<=(kK width V P ind o R (k+1)).length:=by
 simp only [kK];cases aT P k R with
 | nil=>simp only [wrI,List.length_append];omega
 | cons n R'=>simp only [wrI,List.length_append];omega
theorem aAu (width:Int) (V:List Nod->Tr) (P:List Nod->List Pc × List Nod) (ind:Int) (o:List Int) (R:List Nod):∀ (k j:Nat),j<=k->(kK width V P ind o R j).length<=(kK width V P ind o R k).length
 | 0,j,h=>by obtain rfl:j=0:=by omega
             exact Nat.le_refl _
 | k+1,j,h=>by
   by_cases e:j=k+1
   ·rw [e];exact Nat.le_refl _
   ·exact Nat.le_trans (aAu width V P ind o R k j (by omega)) (aHC width V P ind o R k)
theorem aAd (a b:List Cm) (ind:Int):cA (a++b) ind=cA a ind++cA b ind:=by simp [cA]
theorem yG (h:List Cm) (ind:Int) (k:Nat) (j:k<h.length):cA (h.take (k+1)) ind=(cA (h.take k) ind++aJ ind)++jE h[k]:=by
 rw [show h.take (k+1)=h.take k++[h[k]] by rw [List.take_add_one];simp [j],aAd];simp [cA]
theorem rW (h:List Cm) (ind:Int) (k:Nat):(cA (h.take k) ind).length<=(cA h ind).length:=by
 have:=congrArg List.length (aAd (h.take k) (h.drop k) ind);rw [List.take_append_drop,List.length_append] at this;omega
theorem aKu {width ind level b:Int} {d:Nat} {n:Nod} {R:List Nod} {out:List Int} (h:n.k<5\/(n.C=0/\n.tail=[])):∃ s,aE (aR ind (d+1) (n::R)) []=some s/\LX width (aR ind (d+1) (n::R)) level out b=s:=by
 simp only [aR]
 by_cases j:n.k<5
 ·rw [if_pos j];exact ⟨_,pA _,wJ _ _ _ _ _⟩
 ·obtain ⟨y,u⟩:n.C=0/\n.tail=[]:=(by rcases h with h | h;exact absurd h j;exact h);rw [if_neg j,oX,if_pos y,if_pos u];exact ⟨_,pA _,wJ _ _ _ _ _⟩
theorem aKg {width ind level b:Int} {d:Nat} {n:Nod} {R:List Nod} {out s:List Int} (G:¬ n.k<5) (H:¬ (n.C=0/\n.tail=[])) (h:aE (aR ind (d+1) (n::R)) []=some s) (A:eE out+aH s+b<=width):LX width (aR ind (d+1) (n::R)) level out b=s:=by
 simp only [aR,if_neg G,oX] at h ⊢
 by_cases j:n.C=0
 ·exfalso;have D:n.tail≠[]:=fun e=>H ⟨j,e⟩;rw [if_pos j,if_neg D,qY] at h;have E:aE (bC 4) []=none:=(by simp [aE,bC]);simp only [eH,E,Option.bind_none] at h;cases y:aE (bR [iT n.k]) [] with
  | none=>rw [y] at h;cases h
  | some a=>
    rw [y] at h;cases u:aE (lW ind (iW n.tail)) [] with
    | none=>rw [u] at h;cases h
    | some a=>rw [u] at h;cases h
 ·rw [if_neg j] at h ⊢;simp only [aE] at h;rw [aIo,h];simp only;rw [if_pos A]
theorem aGX {width ind level b:Int} {d:Nat} {n:Nod} {R O:List Nod} {out:List Int} {m:Bool} (D:0<=ind) (j:0<=level) (h:Cu out) (H:0<=n.C) (E:aD aZ (d+1) m (n::R,())=some (O,())) (J:∀ p∈R,p.k<5->p.C=0) (N:∀ p∈R,NdX p) (u:NdX n)
  (U:¬ n.k<5) (X:¬ (n.C=0/\n.tail=[])) (A:∀ s,aE (aR ind (d+1) (n::R)) []=some s->¬ eE out+aH s+b<=width):out++LX width (aR ind (d+1) (n::R)) level out b=BRK width ind d n R level out:=by
 obtain ⟨_,_,S⟩:=oL E;simp only [aR,if_neg U,oX] at A ⊢
 by_cases y:n.C=0
 ·have G:n.tail≠[]:=fun e=>X ⟨y,e⟩;rw [if_pos y,if_neg G];exact aKe D j h y u
 ·rw [if_neg y] at A ⊢;simp only [aE] at A
  have M:LX width (.un ⟨8,[],0⟩ (tD ind n (pO (aR ind d) (aF ind d) n.C.toNat R))) level out b=LX width (tD ind n (pO (aR ind d) (aF ind d) n.C.toNat R)) level out b:=by
   rw [aIo];cases L:aE (tD ind n (pO (aR ind d) (aF ind d) n.C.toNat R)) [] with
   | none=>rfl
   | some s=>simp only;rw [if_neg (A s L)]
  rw [M];exact aLq D j h (by omega) S J N u
end Go.Proofs.YtgifkcpdihphlaaGreatDoor
namespace Go.Proofs.YtgifkcpdihphlaaGreatDoor
open Tryz
open Go.RowKit
def aKj (t:Tre) (width ind:Int) (d:Nat):Prop:=
 ∀ (j:Nat) (R2:List Nod) (m:Bool) (nv tv ov:Value) (out:List Int) (B:Nat) (bh level:Int) (w:World),j<t.N.length->aD aZ d m (t.N.drop j,())=some (R2,())->Bw B w ov out->B<=w.heap.size->RdN B w nv t.N->RdC B w tv t.tail->
  Cu out->(fK [] out).length<=200000->0<=bh->bh<=1->0<=level->level+ind*d<=4000->mes (aF ind d (t.N.drop j)).1<=150000->out.length+(LX width (aR ind d (t.N.drop j)) level out bh).length<=1000000000->
  Calls prog 19 #[ov,.agg #[nv,tv],.int .i64 j,.agg #[.int .i64 width,.int .i64 ind,.int .i64 bh,.int .i64 level]] w fun e w'=>∃ v',e=.returned v'/\Bw B w' v' (out++LX width (aR ind d (t.N.drop j)) level out bh)/\bQ w w' ov v'
theorem aC9 {c:Cm} : ∀ {j:List Cm},c∈j->4*c.t.length<=wC j
 | [],h=>by simp at h
 | b::j,h=>by
   simp only [wC];rcases List.mem_cons.1 h with rfl | h
   ·omega
   ·have:=aC9 h;omega
theorem aJX {p:Nod} : ∀ {j:List Nod},p∈j->wN p<=wNs j
 | [],h=>by simp at h
 | b::j,h=>by
   simp only [wNs];rcases List.mem_cons.1 h with rfl | h
   ·omega
   ·have:=aJX h;omega
theorem aC4 {j:List Nod} (h:wNs j<=2000000) {p:Nod} (y:p∈j) {c:Cm} (u:c∈p.L):c.t.length<=1000000:=by
 have A:=aJX y;have D:=aC9 u;simp only [wN] at A;omega
theorem aHH {q:List Int} (h:q.all bW=true):q.length<=(aQ q).length:=by
 induction q with
 | nil=>simp
 | cons p q ih=>
   obtain ⟨u,j⟩:=aDA h;have:=(uW p).1;have:=ih j;rw [show aQ (p::q)=enc p++aQ q by simp [aQ]];simp only [List.length_append,List.length_cons];omega
theorem aDg {s:List Int} (h:Vt s):0<=aH s/\aH s<=s.length:=by
 obtain ⟨q,j,rfl⟩:=h;have:=aHH j;rw [kH j];omega
theorem aE4 {out:List Int} (h:Cu out):0<=eE out/\eE out<=(fK [] out).length:=aDg h
end Go.Proofs.YtgifkcpdihphlaaGreatDoor
