import Derived.Test.YtmfehflibkokbaaGreatDoorMAE
import Derived.Test.YtmfehflibkokbaaGreatDoorMBJ
set_option maxHeartbeats 16000000
set_option maxRecDepth 100000
namespace Go.Proofs.YtmfehflibkokbaaGreatDoor
open Go.Proofs.Tryz
open Go.RowKit
def Wid (F:Nat) (v:Value) (zs:List Int) (Γ:Gm) (w:World) (e:Ending) (w':World):Prop:=∃ k:Int,e=.returned (.int .i64 k)/\-1<=k/\k<=1000000/\StD F v zs Γ w'/\w.grownBy w' (some F)
theorem aKn {F:Nat} {v:Value} {zs:List Int} {Γ:Gm} {w:World} (E:StD F v zs Γ w) (D:Zs zs) :
  Calls prog 29 #[.pointer (some ⟨F,0,none⟩)] w fun e w'=>Wid F v zs Γ w e w':=by
 have M:=aB (E.next D);clear E D
 go_enter func29,ntmps29
 go_wp2_with fail
 refine M.out.mono ?_;rintro e U ⟨k,rfl,S,O,J,G⟩;have A:=aB J;have h:=aB G;clear M J G
 by_cases y:k=250
 ·have N:(k==250)=true:=(by simpa using y);clear y;go_wp2;go_ret;exact ⟨_,rfl,by omega,by omega,A.out,h.out⟩
 ·have N:(k==250)=false:=by simpa using y
  by_cases X:250<k
  ·go_wp2;go_ret;exact ⟨_,rfl,by omega,by omega,A.out,h.out⟩
  ·go_wp2;go_ret;exact ⟨_,rfl,by omega,by omega,A.out,h.out⟩
theorem aJT {F:Nat} {v:Value} {zs:List Int} {Γ:Gm} {w:World} (E:StD F v zs Γ w) (D:Zs zs) :
  Calls prog 14 #[.pointer (some ⟨F,0,none⟩)] w fun e w'=>Wid F v zs Γ w e w':=by
 have M:=aB (E.next D);clear E D
 go_enter func14,ntmps14
 go_wp2_with fail
 refine M.out.mono ?_;rintro e U ⟨k,rfl,S,O,J,G⟩;have A:=aB J;have h:=aB G;clear M J G
 by_cases y:k=250
 ·have N:(k==250)=true:=(by simpa using y);clear y;go_wp2;go_ret;exact ⟨_,rfl,by omega,by omega,A.out,h.out⟩
 ·have N:(k==250)=false:=by simpa using y
  by_cases X:250<k
  ·go_wp2;go_ret;exact ⟨_,rfl,by omega,by omega,A.out,h.out⟩
  ·go_wp2;go_ret;exact ⟨_,rfl,by omega,by omega,A.out,h.out⟩
theorem aJL {F:Nat} {v:Value} {zs:List Int} {Γ:Gm} {w:World} (M:StD F v zs Γ w) (E:Zs zs) :
  Calls prog 13 #[.pointer (some ⟨F,0,none⟩)] w fun e w'=>∃ k:Int,e=.returned (.int .i64 k)/\StD F v zs Γ w'/\Below F w w':=by
 have U:=aB (M.next E);have Y:=aB E;have O:=aB M;clear M E
 go_enter func13,ntmps13
 go_wp2_with fail
 refine U.out.mono ?_;rintro e w1 ⟨k,rfl,Z,a4,N,S⟩;have J:=aB N;have G:=aB (O.out.low S);have HW:=aB (aKn N Y.out);clear U N S O
 by_cases h1:0<k%4
 ·by_cases h2:k<240
  ·go_wp2;go_ret;exact ⟨_,rfl,J.out,G.out⟩
  ·go_wp2_with fail
   refine HW.out.mono ?_;rintro e w2 ⟨X,rfl,_,_,A,D⟩;have h:=aB (G.out.trans (J.out.low D));have y:=aB A;clear HW A D;go_wp2;go_ret;exact ⟨_,rfl,y.out,h.out⟩
 ·go_wp2_with fail
  refine HW.out.mono ?_;rintro e w2 ⟨X,rfl,_,_,A,D⟩;have h:=aB (G.out.trans (J.out.low D));have y:=aB A;clear HW A D;go_wp2;go_ret;exact ⟨_,rfl,y.out,h.out⟩
theorem Wn.ret {F R n:Nat} {Γ Γ0:Gm} {w0 W:World} {nv tv:Value} (h:Wn F Γ0 w0 Γ W) (A:Γ R=some (.tr,1,0)) (E:HV Γ .nd nv n) (N:n<=3201) (G:HW Γ .cm 65 tv) :
  ∃ O M,(W.cell? ⟨R,0,none⟩=some O/\W.cell? ⟨R,1,none⟩=some M/\W.frozen? ⟨R,0,none⟩=false/\W.frozen? ⟨R,1,none⟩=false)/\Hid (Tdy F Γ0 w0 (.returned (.agg #[nv,tv])) ((W.setCell ⟨R,0,none⟩ nv).setCell ⟨R,1,none⟩ tv)):=by
 obtain ⟨_,_,_,_,_,_,S,J,y,D⟩:=h.wt.tree A;exact ⟨_,_,⟨S,J,y,D⟩,_,_,rfl,Γ,n,E,N,G,(h.set A 0 (u:=nv) (⟨n,by omega,E⟩:HW Γ .nd (65*50) nv)).set A 1 (u:=tv) G⟩
theorem Wn.trans {F:Nat} {Γ0 Γ1 Γ2:Gm} {w0 D A:World} (h:Wn F Γ0 w0 Γ1 D) (y:Wn F Γ1 D Γ2 A):Wn F Γ0 w0 Γ2 A:=⟨y.wt,y.lt,h.le.trans y.le,h.bl.trans y.bl⟩
theorem aDB {F:Nat} {v:Value} {zs:List Int} (hz:Zs zs) (Γ:Gm) (w:World) (hs:StD F v zs Γ w) :
  Calls prog 15 #[.pointer (some ⟨F,0,none⟩)] w fun e w'=>Tdy F Γ w e w':=by
 have HZ:=aB hz;have D0:Dn F v zs Γ w (upd Γ w.heap.size (.tr,1,0)) (w.alloc (Obj.cells #[.slice none 0 0,.slice none 0 0] 26)):=(Dn.refl hs).new .tr 1 _ rfl (aFV (HW.nil _ _ _) (HW.nil _ _ _));have hR:=bG Γ w.heap.size (.tr,1,0);generalize upd Γ w.heap.size (.tr,1,0)=Γ1 at *;have HN:=aB (D0.st.next hz);have a5:=aB D0;clear hs hz D0
 go_enter func15,ntmps15
 go_wp2_with fail
 refine HN.out.mono ?_;rintro e w1 ⟨k,rfl,g3,g5,s1,g1⟩;have h:=aB (a5.out.next s1 g1);clear HN s1 g1 a5;generalize w.heap.size=R at *
 by_cases h1:k=7
 ·have b1:(k==7)=true:=(by simpa using h1);have S:=aB (h.out.st.next HZ.out);clear h1
  go_wp2_with fail
  refine S.out.mono ?_;rintro e w2 ⟨k2,rfl,d6,f3,s2,g2⟩;obtain ⟨n,hn⟩:∃ n:Nat,(n:Int)=10+k2:=⟨(10+k2).toNat,by omega⟩;have HD:=aB (aJ9 n (by omega) (by omega) Γ1 w2 s2);have U:=aB (h.out.next s2 g2);rw [hn] at HD;clear S s2 g2 h hn
  go_wp2_with fail
  refine HD.out.mono ?_;rintro e w3 ⟨nv,tv,rfl,Γ3,Y,y,M,G,D⟩;obtain ⟨_,_,⟨r0,r1,X,Z⟩,HT⟩:=(U.out.trans D).wn.ret (D.le.full hR) y (by omega) (G.mono (Gle.refl _) (by omega));obtain ⟨na,nc,A,_⟩:=y.sl;obtain ⟨ta,tn,tc,E⟩:=G.form;subst A E;clear HD U y G D;go_wp2;refine bodyPost_ret (v:=.agg #[.slice na Y nc,.slice ta tn tc]) (by simp [results,Tryz.results15,go_sem,r0,r1]) rfl ?_;exact HT.out
 ·have b1:(k==7)=false:=(by simpa using h1);have N:=aB (aDi HZ.out Γ1 w1 h.out.st)
  by_cases h2:k%8=0
  ·have b2:(k%8==0)=true:=(by simpa using h2);clear h1 h2
   go_wp2_with fail
   refine N.out.mono ?_;rintro e w3 ⟨nv,tv,rfl,Γ3,Y,y,M,G,D⟩;have J:=h.out.trans D;have O:=World.grownBy_alloc w3 (Obj.cells #[nv,tv] 26) none;have HS:=aB (aIX HZ.out Γ3 _ (J.st.K O) nv tv Y y M.1 M.2 G);have a9:=aB (J.K O).wn;have c5:=D.le.full hR;obtain ⟨na,nc,A,_⟩:=y.sl;obtain ⟨ta,tn,tc,E⟩:=G.form;subst A E;clear N h y G D J O
   go_wp2_with fail
   refine HS.out.mono ?_;rintro e w5 ⟨nv,tv,rfl,Γ5,n5,y,f5,G,D5⟩;obtain ⟨_,_,⟨r0,r1,X,Z⟩,HT⟩:=(a9.out.trans D5).ret (D5.le.full c5) y (by omega) G;obtain ⟨c9,d1,A,_⟩:=y.sl;obtain ⟨c6,c4,c2,E⟩:=G.form;subst A E;clear HS a9 y G D5;go_wp2;refine bodyPost_ret (v:=.agg #[.slice c9 n5 d1,.slice c6 c4 c2]) (by simp [results,Tryz.results15,go_sem,r0,r1]) rfl ?_;exact HT.out
  ·have b2:(k%8==0)=false:=(by simpa using h2);clear h1 h2
   go_wp2_with fail
   refine N.out.mono ?_;rintro e w3 ⟨nv,tv,rfl,Γ3,Y,y,M,G,D⟩;have J:=h.out.trans D;have O:=World.grownBy_alloc w3 (Obj.cells #[nv,tv] 26) none;obtain ⟨_,_,⟨r0,r1,X,Z⟩,HT⟩:=(J.K O).wn.ret (D.le.full hR) y (by omega) (G.mono (Gle.refl _) (by omega));obtain ⟨na,nc,A,_⟩:=y.sl;obtain ⟨ta,tn,tc,E⟩:=G.form;obtain ⟨_,_,_,_,_,_,s0,s1,f7,f8⟩:=D.st.wt.tree (D.le.full hR);have d5:R≠w3.heap.size:=(by have:=(D.st.wt.lt (D.le.full hR)).2;omega);subst A E;clear N h y G D J O;go_wp2;refine bodyPost_ret (v:=.agg #[.slice na Y nc,.slice ta tn tc]) (by simp [results,Tryz.results15,go_sem,r0,r1]) rfl ?_;exact HT.out
structure Tdr (t:Tre):Prop where
 l:t.N.length<=3201
 n:∀ p∈t.N,NdD 65 p
 tl:t.tail.length<=65
 t:∀ c∈t.tail,CmD 65 c
theorem aGN {B B':Nat} {w:World} {v:Value} {zs:List Int} (h:RdB B w v zs) (G:B<=B'):RdB B' w v zs:=by
 obtain ⟨a,cap,hv,D⟩:=h;refine ⟨a,cap,hv,fun A=>?_⟩;obtain ⟨b,off,E,J,y⟩:=D A;exact ⟨b,off,E,by omega,y⟩
theorem aIC (a:Option Addr) (cap:Nat) (zs:List Int) (w:World) (o:Obj) (hv:RdB w.heap.size w (.slice a zs.length cap) zs) :
  RdB w.heap.size (w.alloc o) (.slice a (min 500 zs.length) cap) (zs.take 500):=by
 obtain ⟨M,h,e,D⟩:=hv;cases e;refine ⟨a,cap,by rw [List.length_take],fun y=>?_⟩;obtain ⟨b,off,E,G,A⟩:=D (fun e=>y (by rw [e];simp));refine ⟨b,off,E,G,fun j J=>?_⟩;rw [List.length_take] at J;rw [(World.grownBy_alloc w o none).cell (A j (by omega)) (by simp),List.getElem?_take,if_pos (by omega)]
theorem aAL (a:Option Addr) (cap:Nat) (zs:List Int) (w:World) (hv:RdB w.heap.size w (.slice a zs.length cap) zs) (S:Bys zs) (hm:zs.length<=1048576) (a8:zs.length<=cap) (a5:cap<=9223372036854775807) :
  Calls prog 4 #[.slice a zs.length cap] w fun e w'=>∃ nv tv k i,e=.returned (.tuple #[.agg #[nv,tv],.int .i64 k,.int .i64 i])/\(-1<=i/\i<=1000000)/\(∃ t,eF w'.heap.size w' nv tv t/\Tdr t)/\w.grownBy w' none:=by
 obtain ⟨w0,y⟩:∃ w0,w0=w.alloc (Obj.cells #[.slice none 0 0,.slice none 0 0] 26):=⟨_,rfl⟩;have X:w.grownBy w0 none:=(by rw [y];exact gWA);have c0:w0.cell? ⟨w.heap.size,0,none⟩=some (.slice none 0 0):=(by rw [y];simp [go_sem]);have c1:w0.cell? ⟨w.heap.size,1,none⟩=some (.slice none 0 0):=(by rw [y];simp [go_sem]);have f0:w0.frozen? ⟨w.heap.size,0,none⟩=false:=(by rw [y];simp [go_sem]);have f1:w0.frozen? ⟨w.heap.size,1,none⟩=false:=(by rw [y];simp [go_sem]);have M:=aB (show w0.heap.size=w.heap.size+1 by rw [y];simp);have G:RdB w0.heap.size w0 (.slice a zs.length cap) zs:=aGN (hv.K X) X.size;have HO:=aB (aEt a cap zs w0 hm a8 a5);have HG:=aB X;have J:=aB (((Below.refl w0.heap.size w0).alloc (Nat.le_refl _) (.cells #[.slice a (min 500 zs.length) cap,.int .i64 0] 79)));have HZ:Hid (Zs (zs.take 500)):=⟨fun z hz=>S z (List.mem_of_mem_take hz),by rw [List.length_take];omega⟩
 have HS:Hid (StD w0.heap.size (.slice a (min 500 zs.length) cap) (zs.take 500) (fun _=>none) (w0.alloc (.cells #[.slice a (min 500 zs.length) cap,.int .i64 0] 79))):=
  ⟨fun b k m s h=>(by cases h),⟨0,Nat.zero_le _,heap_alloc_new w0 _⟩,aIC a cap zs w0 _ G⟩
 have HW:=aB (aJL HS.out HZ.out);clear hv G S X;generalize (zs.take 500)=ys at *
 go_enter func4,ntmps4
 go_wp2_with fail
 rw [<- y];clear y;refine HO.out.mono ?_;rintro e w1 ⟨rfl,rfl⟩;clear HO
 go_wp2_with fail
 refine HW.out.mono ?_;rintro e w2 ⟨k,rfl,s2,N⟩;have HI:=aB (aJT s2 HZ.out);have O:=aB (J.out.trans N);have D:=aB s2;clear HW J HS s2 N
 go_wp2_with fail
 refine HI.out.mono ?_;rintro e w3 ⟨i,rfl,Y,b5,s3,g3⟩;have HT:=aB (aDB HZ.out _ w3 s3);have E:=aB (O.out.trans (D.out.low g3));clear HI O D s3 g3
 go_wp2_with fail
 refine HT.out.mono ?_;rintro e U ⟨nv,tv,rfl,Γ4,n,Z,hn,⟨q,hq,ht⟩,D4⟩;have b6:=M.out;have A:=E.out.trans D4.bl;have r0:=(A.cell (p:=⟨w.heap.size,0,none⟩) (by simp only;omega)).trans c0;have r1:=(A.cell (p:=⟨w.heap.size,1,none⟩) (by simp only;omega)).trans c1;have d2:=(A.frozen (p:=⟨w.heap.size,0,none⟩) (by simp only;omega)).trans f0;have d3:=(A.frozen (p:=⟨w.heap.size,1,none⟩) (by simp only;omega)).trans f1
 have hW:WT 65 (w0.heap.size+1) Γ4 ((U.setCell ⟨w.heap.size,0,none⟩ nv).setCell ⟨w.heap.size,1,none⟩ tv):=D4.wt.kept fun b h1 h2=>by
  rw [heap_setCell_other _ _ b _ (by simp only;omega),heap_setCell_other _ _ b _ (by simp only;omega)]
 obtain ⟨ns,a1,a2,a3⟩:=Z.rdN hW;obtain ⟨cs,b1,N,b3⟩:=ht.rdC hW
 have HE:Hid ((∃ t,eF ((U.setCell ⟨w.heap.size,0,none⟩ nv).setCell ⟨w.heap.size,1,none⟩ tv).heap.size ((U.setCell ⟨w.heap.size,0,none⟩ nv).setCell ⟨w.heap.size,1,none⟩ tv) nv tv t/\Tdr t)/\w.grownBy ((U.setCell ⟨w.heap.size,0,none⟩ nv).setCell ⟨w.heap.size,1,none⟩ tv) none):=
  ⟨⟨⟨ns,cs⟩,⟨a2,N⟩,by show ns.length<=_;omega,a3,by show cs.length<=_;omega,b3⟩,aC ((((aT HG.out).trans (A.mono (by omega))).setCell (by simp) _).setCell (by simp) _)⟩
 obtain ⟨na,nc,a4,_⟩:=Z.sl;obtain ⟨ta,tc,b0,_⟩:=ht.sl;subst a4 b0;clear HT E Z ht D4 a2 N A hW c0 c1 f0 f1 HG b6 M;go_wp2;refine bodyPost_ret (v:=.tuple #[.agg #[.slice na n nc,.slice ta q tc],.int .i64 k,.int .i64 i]) (by simp [results,Tryz.results4,go_sem,r0,r1]) rfl ?_;exact ⟨_,_,_,_,rfl,⟨Y,b5⟩,HE.out⟩
theorem aCZ (B B':Nat) (w:World) (v tv:Value) (ys t:List Int) (h:Ow .i64 3 B w v ys) (M:Rd .i64 B' w tv t) (hB:B<=w.heap.size) (hn:ys.length+t.length<=100000000000) :
  ∃ D w',(Builtin.append_ #[33,33] 33 #[v,tv]).run prog w=.ok D w'/\Ow .i64 3 B w' D (ys++t)/\w.grownBy w' v.ownBlock/\(D.ownBlock=v.ownBlock\/D.ownBlock=some w.heap.size):=by
 obtain ⟨i0,hi,S,G,O⟩:=info_parts aBg;obtain ⟨a,cap,N,Z⟩:=M;subst N;cases a with
 | none=>
   have ht:t=[]:=by
    rcases t with _ | ⟨z,zs⟩
    ·rfl
    ·obtain ⟨b,off,J,_⟩:=Z (by simp);cases J
   subst ht;exact ⟨v,w,rF B _ _ _ i0 1 underlying33 hi v _ _ h cap,by simpa using h,World.grownBy.refl _ _,.inl rfl⟩
 | some ad=>
   have A:∀ j u,(t.map (Value.int .i64))[j]?=some u->w.cell? (ad.add j)=some u:=by
    intro j u U;have y:j<t.length:=(by have:=(List.getElem?_eq_some_iff.1 U).1;simpa using this);obtain ⟨b2,X,J,_,hc⟩:=Z (fun e=>by rw [e] at y;simp at y);cases J;rw [Addr.add_lit,hc j y];simpa [y] using U
   obtain ⟨D,w',E,h1,h2,_,h4⟩:=run_append_own_at (P:=prog) w B 33 33 3 i0 (.int .i64 0) 1 8 underlying33 hi S G O rfl (by decide) v ys.length (ys.map (Value.int .i64)) h ad t.length cap (t.map (Value.int .i64)) (by simp) A
    (by intro u Y;simp only [List.mem_map] at Y;obtain ⟨z,_,rfl⟩:=Y;rfl) (by unfold maxLen;omega) (by omega) hB
   exact ⟨D,w',E,by unfold Ow;simpa using h1,h2,h4⟩
theorem aB5 (a:Option Addr) (n cap:Nat) (y:Value) (w w':World) (h:(Builtin.append_ #[33,33] 33 #[.slice none 0 0,.slice a n cap]).run prog w=.ok y w') :
  Calls prog 38 #[.slice a n cap] w fun e A=>e=.returned y/\w'=A:=by
 go_enter func38,ntmps38
 go_wp2_with (at_builtin;refine lB rfl _ _ _ rfl _ _ _ _ rfl rfl h ?_)
 go_ret;exact ⟨rfl,rfl⟩
theorem yG (v:Value) (zs:List Int) (w:World) (hv:Rd .i64 w.heap.size w v zs) (G:zs.length<=4194304) :
  Calls prog 38 #[v] w fun e w'=>∃ h,e=.returned h/\Ow .i64 3 w.heap.size w' h zs/\w.grownBy w' none:=by
 obtain ⟨h,w',y,D,E,_⟩:=aCZ w.heap.size w.heap.size w (.slice none 0 0) v [] zs ⟨by simp,.inl ⟨rfl,rfl⟩⟩ hv (Nat.le_refl _) (by simp;omega);obtain ⟨a,cap,A,_⟩:=id hv;subst A;refine (aB5 a zs.length cap h w w' y).mono ?_;rintro e J ⟨rfl,rfl⟩;exact ⟨h,rfl,by simpa using D,E⟩
attribute [-go_sem] Builtin.append_
theorem aLz:(prog.info? 35).map (fun i=>(i.zero,i.size,i.bytes))=some (some (.agg #[.int .i64 0,.slice none 0 0,.bool false,.slice none 0 0,.slice none 0 0,.slice none 0 0,.int .i64 0,.slice none 0 0]),8,144):=by kernel_rfl
def At8 (xs:List Value) (o:Nat) (p:Nod) (lv kv xv uv tv:Value):Prop:=xs[o]?=some (.int .i64 p.k)/\xs[o+1]?=some lv/\xs[o+2]?=some (.bool p.mem)/\xs[o+3]?=some kv/\xs[o+4]?=some xv/\xs[o+5]?=some uv/\xs[o+6]?=some (.int .i64 p.C)/\xs[o+7]?=some tv
structure TOk (t:Tre):Prop where
 n:t.N.length<=1048576
 ns:∀ p∈t.N,NOk p
 tl:t.tail.length<=1048576
 ts:∀ c∈t.tail,c.t.length<=1048576
structure Far (B:Nat) (w w':World):Prop where
 size:w.heap.size<=w'.heap.size
 block:∀ k,B<=k->k<w.heap.size->w'.heap[k]?=w.heap[k]?
theorem aGe {B:Nat} {w w':World} (h:w.grownBy w' none):Far B w w':=⟨h.size,fun k _ y=>h.block k y (by simp)⟩
theorem aBZ {B:Nat} {w w':World} {e:TypeId} {size n:Nat} {v:Value} {xs:List Value} (h:w.ownsRow B e size v n xs) (f:Far B w w'):w'.ownsRow B e size v n xs:=by
 refine ⟨h.1,?_⟩;rcases h.2 with E | ⟨g,cap,y,hv,D,A,rest⟩
 ·exact .inl E
 ·exact .inr ⟨g,cap,y,hv,D,by rw [f.block g D (Array.getElem?_eq_some_iff.1 A).1];exact A,rest⟩
def qQ (p:Nod):Nod:={ p with L:=[],tail:=[] }
abbrev V3:=Value × Value × Value
def nM (B:Nat) (w:World) (p:Nod) (t:V3):Prop:=OwI B w t.1 p.key/\OwB B w t.2.1 p.X/\OwI B w t.2.2 p.U
theorem nM.far {B:Nat} {w w':World} {p:Nod} {t:V3} (h:nM B w p t) (f:Far B w w'):nM B w' p t:=⟨aBZ h.1 f,aBZ h.2.1 f,aBZ h.2.2 f⟩
theorem nM.later {B:Nat} {w w':World} {p:Nod} {t:V3} (h:nM B w p t) (g:w.grownBy w' none):nM B w' p t:=h.far (aGe g)
theorem nM.base {B B':Nat} {w:World} {p:Nod} {t:V3} (h:nM B w p t) (y:B'<=B):nM B' w p t:=⟨dP y h.1,dP y h.2.1,dP y h.2.2⟩
theorem nM.set {B:Nat} {w:World} {p:Nod} {t:V3} (h:nM B w p t) (b j:Nat) (x:Value) (y:b<B):nM B (w.setCell ⟨b,j,none⟩ x) p t:=⟨h.1.setC _ _ y,h.2.1.setC _ _ y,h.2.2.setC _ _ y⟩
def Apr (r:Option Nat) (t:V3):Prop:=∀ g,(t.1.ownBlock=some g\/t.2.1.ownBlock=some g\/t.2.2.ownBlock=some g)->r≠some g
theorem aFB (B:Nat) (w:World):RdC B w (.slice none 0 0) []:=⟨none,0,rfl,by simp,by unfold maxLen;omega,fun h=>absurd rfl h⟩
theorem aJc {B:Nat} {w:World} {v:Value} {D:List Nod} {xs:List Value} (A:w.ownsRow B 35 8 v D.length xs)
  (ht:∀ j p,D[j]?=some p->∃ t B',At8 xs (j*8) (qQ p) (.slice none 0 0) t.1 t.2.1 t.2.2 (.slice none 0 0)/\nM B' w p t):RdN w.heap.size w v (D.map qQ):=by
 rcases A.2 with ⟨hv,X⟩ | ⟨g,cap,a7,hv,hb,hg,G,E,_⟩
 ·have:D=[]:=List.eq_nil_of_length_eq_zero X;subst this hv;exact ⟨none,0,rfl,by simp,by unfold maxLen;omega,fun h=>absurd rfl h⟩
 ·refine ⟨some ⟨g,0,none⟩,cap,by rw [hv];simp,by simpa using G,E,fun _=>⟨g,0,rfl,(Array.getElem?_eq_some_iff.1 hg).1,fun j q J=>?_⟩⟩;simp only [List.getElem?_map,Option.map_eq_some_iff] at J;obtain ⟨p,N,rfl⟩:=J;obtain ⟨t,B',⟨Z,Y,e2,e3,e4,e5,e6,e7⟩,O,S,M⟩:=ht j p N;have hj:=(List.getElem?_eq_some_iff.1 N).1;have U:=A.1;rw [hv] at A
  have y:∀ i u,i<8->xs[j*8+i]?=some u->w.cell? ⟨g,0+j*8+i,none⟩=some u:=fun i u hi hu=>by
   rw [Nat.zero_add,World.ownsRow.cellAt A (j*8+i) (by omega)];exact hu
  exact ⟨.slice none 0 0,t.1,t.2.1,t.2.2,.slice none 0 0,y 0 _ (by omega) Z,y 1 _ (by omega) Y,y 2 _ (by omega) e2,y 3 _ (by omega) e3,y 4 _ (by omega) e4,y 5 _ (by omega) e5,y 6 _ (by omega) e6,y 7 _ (by omega) e7,
   aFB _ _,O.rd,O.sl,S.rd,S.sl,M.rd,M.sl,aFB _ _⟩
end Go.Proofs.YtmfehflibkokbaaGreatDoor
namespace Go.Proofs.YtmfehflibkokbaaGreatDoor
open Go.Proofs.Tryz
open Go.RowKit
attribute [-go_sem] Builtin.append_
theorem aGd (B:Nat) (w:World) (v:Value) (n:Nat) (xs:List Value) (b:Nat) (x:Bool) (a:Option Addr) (l c:Nat) (D:w.ownsRow B 128 2 v n xs)
  (Y:w.cell? ⟨b,0,none⟩=some (.bool x)) (Z:w.cell? ⟨b,1,none⟩=some (.slice a l c)) (U:B<=w.heap.size) (S:n<=100000000) :
  ∃ A w',(Builtin.append_ #[24,24] 24 #[v,.slice (some ⟨b,0,none⟩) 1 1]).run prog w=.ok A w'/\w'.ownsRow B 128 2 A (n+1) (xs++[.bool x,.slice a l c])/\w.grownBy w' v.ownBlock/\∃ a cap,A=.slice a (n+1) cap:=by
 obtain ⟨i0,hi,M,G,J⟩:=info_parts aKR
 have y:∀ j u,([.bool x,.slice a l c]:List Value)[j]?=some u->w.cell? ((⟨b,0,none⟩:Addr).add j)=some u:=by
  intro j u h;rw [Addr.add_lit,Nat.zero_add]
  match j,h with
  | 0,h=>simp at h;subst h;exact Y
  | 1,h=>simp at h;subst h;exact Z
  | j+2,h=>simp at h
 obtain ⟨A,w',E,O,X,_,h5⟩:=run_append_own_at (P:=prog) w B 24 24 128 i0 (.agg #[.bool false,.slice none 0 0]) 2 32 underlying24 hi M G J rfl (by decide) v n xs D ⟨b,0,none⟩ 1 1 [.bool x,.slice a l c] rfl y
   (by intro u N;simp at N;rcases N with rfl | rfl<;>rfl) (by unfold maxLen;omega) (by omega) U
 refine ⟨A,w',E,O,X,?_⟩;rcases O.2 with ⟨hv,S⟩ | ⟨g,cap,a4,hv,_⟩
 ·omega
 ·exact ⟨_,cap,hv⟩
theorem vL {B:Nat} {w:World} {e:TypeId} {size n:Nat} {v:Value} {xs:List Value} (h:w.ownsRow B e size v n xs):∃ a cap,v=.slice a n cap:=by
 rcases h.2 with ⟨hv,y⟩ | ⟨g,cap,A,hv,_⟩
 ·exact ⟨none,0,by rw [hv,y]⟩
 ·exact ⟨_,cap,hv⟩
theorem tL (v:Value) (D:List Cm) (w:World) (hv:RdC w.heap.size w v D) (hn:D.length<=1048576) (ht:∀ c∈D,c.t.length<=1048576) :
  Calls prog 37 #[v,.slice none 0 0] w fun e w'=>(∃ a n c,e=.returned (.slice a n c))/\w.grownBy w' none:=by
 obtain ⟨a,cap,c4,_⟩:=id hv;have HV:=aB hv;have HT:=aB ht;subst c4;clear hv ht
 go_enter func37,ntmps37
 go_wp2
 go_loopw [5,6] (fun o i W=>∃ (k:Nat) (xs:List Value),k<=D.length/\i=.int .i64 k/\W.ownsRow w.heap.size 128 2 o k xs/\w.grownBy W none) (fun _ i _=>D.length - (intOf i).toNat)
 case atStart=>exact ⟨0,[],Nat.zero_le _,rfl,⟨by simp,.inl ⟨rfl,rfl⟩⟩,World.grownBy.refl _ _⟩
 case round=>
  obtain ⟨k,xs,hk,rfl,A,G⟩:=hrel;obtain ⟨oa,oc,rfl⟩:=vL A
  by_cases a8:k<D.length
  ·obtain ⟨b,off,c9,tv,b4,hb,hp⟩:=(HV.out.K G).at k a8;cases b4;have z0:=hp.k;have z1:=hp.t;have b3:=HT.out _ (List.getElem_mem a8);obtain ⟨ta,tc,c6,_,_⟩:=id hp.sl;subst c6;have g0:wr.grownBy wr.drew none:=⟨rfl,rfl,rfl,Nat.le_refl _,fun _ _ _=>rfl⟩;obtain ⟨v1,w1,X,o1,g1,_⟩:=lR wr.drew.heap.size wr.drew.heap.size wr.drew (.slice none 0 0) _ [] D[k].t ⟨by simp,.inl ⟨rfl,rfl⟩⟩ ((hp.rd.K g0).now) (Nat.le_refl _) (by simp;omega);have Z:wr.drew.grownBy w1 none:=g1;simp only [List.nil_append] at o1;obtain ⟨a1,c1,b7,_⟩:=o1.rd;subst b7;obtain ⟨W3,N⟩:∃ W3,W3=w1.alloc (Obj.cells #[.bool D[k].b,.slice a1 D[k].t.length c1] 128):=⟨_,rfl⟩;have g3:w1.grownBy W3 none:=(by rw [N];exact gWA);have O:=aA (aA g0 Z) g3;obtain ⟨v3,w4,b0,J,g4,a3,c3,b5⟩:=aGd w.heap.size W3 (.slice oa k oc) k xs w1.heap.size D[k].b a1 D[k].t.length c1 (World.ownsRow.kept A O (by cases (Value.slice oa k oc).ownBlock<;>simp)) (by rw [N];simp [go_sem]) (by rw [N];simp [go_sem]) (by have:=G.size;have:=O.size;omega) (by omega);subst b5;have U:Hid (w4.ownsRow w.heap.size 128 2 (.slice a3 (k+1) c3) (k+1) (xs++[.bool D[k].b,.slice a1 D[k].t.length c1])/\w.grownBy w4 none):=⟨J,bA (aA G O) g4 (fun j e=>(World.ownsRow.lt A j e).1)⟩;have C1:=aB (tP _ _ _ _ _ _ X);obtain ⟨I,hI⟩:∃ I:World->Prop,I=(fun W:World=>W.cell? ⟨b,off+k*2,none⟩=some (.bool D[k].b)/\W.cell? ⟨b,off+k*2+1,none⟩=some (.slice ta D[k].t.length tc)):=⟨_,rfl⟩;have y:I wr.drew:=by rw [hI];exact ⟨g0.cell z0 (by simp),g0.cell z1 (by simp)⟩
   have M:∀ {W W':World} {r:Option Nat},I W->W.grownBy W' r->r≠some b->I W':=by
    intro W W' r h g hr;rw [hI] at h ⊢;exact ⟨g.cell h.1 (Ne.symm hr),g.cell h.2 (Ne.symm hr)⟩
   have S:=M y Z (by simp);have Y:=M S g3 (by simp);have a4:=M Y g4 (fun e=>by have:=(World.ownsRow.lt A b e).1;omega);clear M;subst N;clear J A o1 g0 g1 Z g3 g4 O X hp b3 HT HV G;generalize D[k]=p at *;have d9:(k:Int)<D.length:=(by omega);go_wp2;refine aZ I (fun _=>false) (by kernel_rfl) ?_
   show fJ _ _ _ _ _ _ 16 (Array.replicate 16 false) _ _
   refine bK (i:=0) (.slice oa k oc) rfl y (bB rfl (fun W E=>by go_simp)) ?_;refine bK (i:=1) (.slice (some ⟨b,off,none⟩) D.length cap) rfl y (bB rfl (fun W E=>by go_simp)) ?_;refine bK (i:=2) (.int .i64 k) rfl y (bB rfl (fun W E=>by go_simp)) ?_;refine bK (i:=3) (.pointer (some ⟨b,off+k*2,none⟩)) rfl y (bB rfl (fun W E=>by go_simp)) ?_;refine bK (i:=4) (.pointer (some ⟨b,off+k*2,none⟩)) rfl y (bB rfl (fun W E=>by go_simp)) ?_;refine bK (i:=5) (.bool p.b) rfl y (bB rfl (fun W E=>by rw [hI] at E;obtain ⟨h1,h2⟩:=E;go_simp)) ?_;refine bK (i:=6) (.slice (some ⟨b,off,none⟩) D.length cap) rfl y (bB rfl (fun W E=>by go_simp)) ?_;refine bK (i:=7) (.int .i64 k) rfl y (bB rfl (fun W E=>by go_simp)) ?_;refine bK (i:=8) (.pointer (some ⟨b,off+k*2,none⟩)) rfl y (bB rfl (fun W E=>by go_simp)) ?_;refine bK (i:=9) (.pointer (some ⟨b,off+k*2+1,none⟩)) rfl y (bB rfl (fun W E=>by go_simp)) ?_;refine bK (i:=10) (.slice ta p.t.length tc) rfl y (bB rfl (fun W E=>by rw [hI] at E;obtain ⟨h1,h2⟩:=E;go_simp)) ?_;generalize hG:Act.put _ _ _=A0;simp [Act.put] at hG;subst hG;refine aD (i:=11) (by kernel_rfl) (dY rfl rfl (by go_simp) C1.out ?_);rintro e w5 ⟨rfl,rfl⟩;refine ⟨_,rfl,.inr S,?_⟩;refine aD (i:=12) (by kernel_rfl) (aF (v:=.agg #[.bool p.b,.slice a1 p.t.length c1]) rfl rfl (by go_simp) ⟨.inr S,?_⟩);refine aD (i:=13) (by kernel_rfl) (aF (v:=.slice (some ⟨w1.heap.size,0,none⟩) 1 1) rfl rfl (by go_simp) ⟨.inr Y,?_⟩);refine aD (i:=14) (by kernel_rfl) (aF (v:=.slice a3 (k+1) c3) rfl rfl (by go_simp) ⟨.inr a4,?_⟩);refine aD (i:=15) (by kernel_rfl) (aF (v:=.slice a3 (k+1) c3) rfl rfl (by go_simp) ⟨.inr a4,?_⟩);refine bL (by kernel_rfl) ?_ _;clear y S Y a4 C1 b0;subst hI;go_wp2
   go_roundw
   case rel=>exact ⟨k+1,_,by omega,by go_num,U.out.1,U.out.2⟩
   case measure=>simp [intOf];omega
  ·have HG:=aB G;clear HT HV G A;go_wp2;refine wp_loop_rounds 1 ?_;rw [rounds_succ];go_wp2;go_ret;exact ⟨⟨_,_,_,rfl⟩,HG.out⟩
end Go.Proofs.YtmfehflibkokbaaGreatDoor
