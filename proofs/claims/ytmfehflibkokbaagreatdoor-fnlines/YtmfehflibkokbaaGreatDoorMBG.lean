import Derived.Test.YtmfehflibkokbaaGreatDoorMBF
set_option maxHeartbeats 16000000
set_option maxRecDepth 100000
namespace Go.Proofs.YtmfehflibkokbaaGreatDoor
open Go.Proofs.Tryz
open Go.RowKit
structure aA6 (t:Tre):Prop where
 n:aKY t.N
 l:t.N.length<=1048576
 t:t.tail.length<=1048576/\xC t.tail
noncomputable def cC (t:Tre):Bool:=
 decide (t.N.length<=4000)&&(match aE (dQ bE dE) 201 false (t.N,(4000,100000)) with
  | some ([],s)=>(lU bE t.tail s).isSome
  | _=>false)
theorem wU {a b c:World} {h:Nat} (g:a.grownBy b none) (k:b.grownBy c (some h)) (A:a.heap.size<=h):a.grownBy c none:=
 ⟨k.os.trans g.os,k.tape.trans g.tape,k.output.trans g.output,Nat.le_trans g.size k.size,fun i y _=>(k.block i (Nat.lt_of_lt_of_le y g.size) (by simp only [ne_eq,Option.some.injEq];omega)).trans (g.block i y (by simp))⟩
theorem nA (nv tv:Value) (t:Tre) (m:Int) (w:World) (hv:eF w.heap.size w nv tv t) (ho:aA6 t) (hT:Tab w) (hM:w.cell? ⟨1,0,none⟩=some (.int .i64 m)) :
  Calls prog 22 #[.agg #[nv,tv]] w fun e w'=>e=.returned (.bool (cC t))/\w.grownBy w' none:=by
 obtain ⟨U,M⟩:=hv;obtain ⟨na,G,b0,_⟩:=id U;obtain ⟨ta,y,c0,_⟩:=id M;have c1:2<=w.heap.size:=World.block_lt_of_cell? w _ hM;have HN:=aB U;have HT:=aB M;have HO:=aB ho;have HX:Hid (Cx w w.heap.size m):=⟨hT,hM,c1,Nat.le_refl _⟩;have hl:=ho.l;subst b0 c0;clear U M hT hM ho
 by_cases c8:4000<t.N.length
 ·have HF:Hid (cC t=false):=by unfold Hid cC;rw [decide_eq_false (by omega)];rfl
  go_enter func22,ntmps22
  go_wp2;go_ret;exact ⟨by rw [HF.out];rfl,gWA⟩
 ·have b2:t.N.length<=4000:=by omega
  go_enter func22,ntmps22
  go_wp2_with fail
  obtain ⟨W1,E⟩:∃ W1,W1=w.alloc (Obj.cells #[Value.slice na t.N.length G,Value.slice ta t.tail.length y] 26):=⟨_,rfl⟩;obtain ⟨S,D⟩:∃ S,S=W1.alloc (Obj.cells #[Value.slice na t.N.length G,Value.int IntKind.i64 4000,Value.int IntKind.i64 100000] 109):=⟨_,rfl⟩;have O:w.grownBy S none:=(by rw [D,E];exact aA gWA gWA);have s2:S.heap.size=w.heap.size+2:=by rw [D,E];simp
  have hK:Ck S (w.heap.size+1) (.slice na t.N.length G) 4000 100000:=by
   rw [D,E];exact ⟨by simp [go_sem],by simp [go_sem],by simp [go_sem],by simp [go_sem],by simp [go_sem],by simp [go_sem]⟩
  have d1:S.cell? ⟨w.heap.size,1,none⟩=some (.slice ta t.tail.length y):=(by rw [D,E];simp [go_sem]);rw [<- E,<- D];clear D E;refine (aAF (w.heap.size+1) w.heap.size m (by omega) 200 (Nat.le_refl _) false _ t.N 4000 100000 S hK (HX.out.below ((aT O).mono (Nat.le_refl _)) (by omega)) (HN.out.K O) HO.out.n HO.out.l (by omega) (by omega)).mono ?_;rintro e w3 ⟨b,v3,R3,P3,c3,r3,rfl,k3,h,A,g3⟩;have d3:w3.cell? ⟨w.heap.size,1,none⟩=some (.slice ta t.tail.length y):=g3.cell d1 (by simp);have X:=aB (wU O g3 (by omega));cases b with
  | false=>
    have HF:Hid (cC t=false):=(by unfold Hid cC;rw [h,Bool.and_eq_false_iff];exact .inr rfl);clear A h k3 g3;go_wp2;go_ret;exact ⟨by rw [HF.out];rfl,X.out⟩
  | true=>
    obtain ⟨Z,d4,d9,b7⟩:=A rfl;obtain ⟨a3,a5,Y,_⟩:=id Z;have z0:=k3.n;cases R3 with
    | cons n R=>
      have HF:Hid (cC t=false):=(by unfold Hid cC;rw [h,Bool.and_eq_false_iff];exact .inr rfl);have b5:((n::R).length:Int)≠0:=(by simp only [List.length_cons];omega);have d6:(((n::R).length:Int)==0)=false:=(by simpa using b5);subst Y;generalize (n::R).length=L at *;clear A h k3 g3;go_wp2;go_ret;exact ⟨by rw [HF.out];rfl,X.out⟩
    | nil=>
      subst Y;have b9:=aB (fC (w.heap.size+1) (.slice a3 0 a5) (.slice ta t.tail.length y) t.tail c3 r3 m w.heap.size w3 k3 (HX.out.below ((aT X.out).mono (Nat.le_refl _)) X.out.size) (HT.out.K X.out) (by omega) HO.out.t.1 HO.out.t.2 b7 (by omega));have b6:Hid (cC t=(lU bE t.tail (c3,r3)).isSome):=(by unfold Hid cC;rw [h,decide_eq_true b2];rfl);clear A h k3 g3 Z
      go_wp2_with fail
      refine b9.out.mono ?_;rintro e w4 ⟨b,c4,r4,rfl,k4,J,g4⟩;have HB:Hid (cC t=b):=(by unfold Hid;rw [b6.out,J];cases b<;>rfl);have G4:=aB (wU X.out g4 (by omega));clear J k4 g4;go_wp2;go_ret;exact ⟨by rw [HB.out];rfl,G4.out⟩
def lG (t:Tre):Bool:=
 decide (1<=t.N.length)&&(decide (t.N.length<=4000)&&((decide (eY t.N+bQ t.tail<=100000)&&decide (fR t.N+t.tail.length<=4000))&&(t.tail.all fO&&(t.N.all aS&&decide (cW t.N.length (gR t.N.length 201 false t.N)=(t.N.length:Int))))))
theorem tR (nv tv:Value) (t:Tre) (w:World) (hv:eF w.heap.size w nv tv t) (ho:aA6 t) (hR:eY t.N+bQ t.tail<=100000000) (hK:fR t.N+t.tail.length<=100000000) :
  Calls prog 16 #[.agg #[nv,tv]] w fun e w'=>e=.returned (.bool (lG t))/\w.grownBy w' none:=by
 obtain ⟨Z,Y⟩:=id hv;obtain ⟨na,D,f6,_⟩:=id Z;obtain ⟨ta,M,f8,_⟩:=id Y;have HN:=aB Z;have HO:=aB ho;have hl:=ho.l;have b2:Hid (∀ w',w.grownBy w' none->_):=fun w' (g:w.grownBy w' none)=>aDE nv tv t w' ⟨(Z.K g).wide g.size,(Y.K g).wide g.size⟩ hR hK (Nat.le_trans ho.l (by omega));have b5:Hid (∀ w',w.grownBy w' none->_):=fun w' (g:w.grownBy w' none)=>kF tv t.tail w' ((Y.K g).wide g.size) ho.t.1 ho.t.2;have b3:Hid ((∀ p∈t.N,p.k<5->p.C=0)->∀ w',w.grownBy w' none->_):=fun hc w' (g:w.grownBy w' none)=>aBB t ho.l hc (fun p y=>(ho.n p y).2) 200 (by omega) 0 false nv tv w' (Nat.zero_le _) ⟨(Z.K g).wide g.size,(Y.K g).wide g.size⟩;have gA:w.grownBy (w.alloc (Obj.cells #[nv,tv] 26)) none:=gWA;have GA:=aB gA;subst f6 f8;clear hv Z Y ho gA
 by_cases h1:t.N.length<1
 ·have HF:Hid (lG t=false):=(by unfold Hid lG;rw [decide_eq_false (by omega)];rfl);have b6:(t.N.length:Int)<1:=by omega
  go_enter func16,ntmps16
  go_wp2;go_ret;exact ⟨by rw [HF.out];rfl,GA.out⟩
 by_cases h2:4000<t.N.length
 ·have HF:Hid (lG t=false):=(by unfold Hid lG;rw [decide_eq_false (show ¬ t.N.length<=4000 by omega)];simp);have b6:¬ (t.N.length:Int)<1:=(by omega);have d7:(4000:Int)<t.N.length:=by omega
  go_enter func16,ntmps16
  go_wp2;go_ret;exact ⟨by rw [HF.out];rfl,GA.out⟩
 have b6:¬ (t.N.length:Int)<1:=(by omega);have d7:¬ (4000:Int)<t.N.length:=by omega
 have G:Hid (lG t=((decide (eY t.N+bQ t.tail<=100000)&&decide (fR t.N+t.tail.length<=4000))&&(t.tail.all fO&&(t.N.all aS&&decide (cW t.N.length (gR t.N.length 201 false t.N)=(t.N.length:Int)))))):=by
  unfold Hid lG;rw [decide_eq_true (show 1<=t.N.length by omega),decide_eq_true (show t.N.length<=4000 by omega)];simp only [Bool.true_and]
 go_enter func16,ntmps16
 go_wp2_with fail
 refine (b2.out _ GA.out).mono ?_;rintro e w1 ⟨rfl,g1⟩;have c0:w1.cell? ⟨w.heap.size,0,none⟩=some (.slice na t.N.length D):=g1.cell (by simp [go_sem]) (by simp);have c1:w1.cell? ⟨w.heap.size,1,none⟩=some (.slice ta t.tail.length M):=g1.cell (by simp [go_sem]) (by simp);have G1:=aB (aA GA.out g1);clear g1 b2;generalize (decide (eY t.N+bQ t.tail<=100000)&&decide (fR t.N+t.tail.length<=4000))=sm at *;cases sm with
 | false=>
   go_wp2;go_ret;exact ⟨by rw [G.out];rfl,G1.out⟩
 | true=>
   rw [Bool.true_and] at G
   go_wp2_with fail
   refine (b5.out _ G1.out).mono ?_;rintro e w2 ⟨rfl,g2⟩;have c2:=g2.cell c0 (by simp);have c3:=g2.cell c1 (by simp);have G2:=aB (aA G1.out g2);clear g2 b5 c0 c1;generalize t.tail.all fO=cm at *;cases cm with
   | false=>
     go_wp2;go_ret;exact ⟨by rw [G.out];rfl,G2.out⟩
   | true=>
     rw [Bool.true_and] at G;go_wp2
     go_loopw [3] (fun i wr=>∃ k:Nat,k<=t.N.length/\i=.int .i64 k/\Hid ((t.N.take k).all aS=true)/\w2.grownBy wr none) (fun i _=>t.N.length - (intOf i).toNat)
     case atStart=>exact ⟨0,Nat.zero_le _,rfl,by simp [Hid],World.grownBy.refl _ _⟩
     case round=>
      obtain ⟨k,hk,rfl,HA,E⟩:=hrel;have c4:=E.cell c2 (by simp);have c5:=E.cell c3 (by simp);have A:=aA G2.out E
      by_cases a5:k<t.N.length
      ·obtain ⟨b,off,h4,lv,kv,xv,uv,f9,f7,hb,y⟩:=(HN.out.K A).at k a5;cases f7;have z0:=y.k;have z1:=y.L;have z2:=y.mem;have z3:=y.key;have z4:=y.X;have z5:=y.U;have z6:=y.C;have z7:=y.tail;have HC:=aB (aCv t.N[k] lv kv xv uv f9 w.heap.size wr A.size y.rl y.rk y.sk y.rx y.sx y.ru y.su y.rt (HO.out.n _ (List.getElem_mem a5)).1);obtain ⟨la,g8,d3,_,_⟩:=y.rl.sl;obtain ⟨qa,i0,d5,_,_⟩:=y.rt.sl;obtain ⟨ka,h6,d4,_,_⟩:=y.sk;obtain ⟨xa,h0,d6,_,_⟩:=y.sx;obtain ⟨ua,g7,f3,_,_⟩:=y.su;have HG:=aB E;have HW:=aB A;subst d3 d5 d4 d6 f3;clear y E A;cases hc:aS t.N[k] with
       | true=>
         have d9:=aB (wJ aS t.N k a5 HA.out hc);rw [hc] at HC;clear hc;generalize t.N[k]=p at *
         go_wp2_with fail
         refine HC.out.mono ?_;rintro e w4 ⟨rfl,g4⟩;have a9:=aB (aA HG.out g4);clear g4;go_wp2
         go_roundw
         case rel=>exact ⟨k+1,by omega,by go_num,d9,a9.out⟩
         case measure=>simp [intOf];omega
       | false=>
         have HF:Hid (lG t=false):=(by unfold Hid;rw [G.out,zH aS t.N k a5 hc];rfl);rw [hc] at HC;clear hc;generalize t.N[k]=p at *
         go_wp2_with fail
         refine HC.out.mono ?_;rintro e w4 ⟨rfl,g4⟩;have a9:=aB (aA HW.out g4);clear g4;go_wp2;go_ret;exact ⟨by rw [HF.out];rfl,a9.out⟩
      ·have J:t.N.all aS=true:=by
        have:=HA.out;rw [show k=t.N.length by omega,List.take_length] at this;exact this
       have b7:∀ p∈t.N,p.k<5->p.C=0:=fun p y h5=>by
        have h:=(qL p).1 (List.all_eq_true.1 J p y);exact (h.2.2.2.2.2.2.2.2.2.1 h5).1
       have f4:Hid (lG t=decide (cW t.N.length (gR t.N.length 201 false t.N)=(t.N.length:Int))):=by
        unfold Hid;rw [G.out,J,Bool.true_and]
       have gd:wr.grownBy wr.drew none:=⟨rfl,rfl,rfl,Nat.le_refl _,fun _ _ _=>rfl⟩;have HE:=aB (b3.out b7 wr.drew (aA A gd));rw [List.drop_zero] at HE;have HW:=aB (aA A gd);have c6:=gd.cell c4 (by simp);have c7:=gd.cell c5 (by simp);clear A E b7 J b3 gd;generalize cW t.N.length (gR t.N.length 201 false t.N)=pl at *;go_wp2;obtain ⟨I,hI⟩:∃ I:World->Prop,I=(fun W:World=>W.cell? ⟨w.heap.size,0,none⟩=some (.slice na t.N.length D)/\W.cell? ⟨w.heap.size,1,none⟩=some (.slice ta t.tail.length M)):=⟨_,rfl⟩;have O:I wr.drew:=(by rw [hI];exact ⟨c6,c7⟩);refine aZ I (fun _=>false) (by kernel_rfl) ?_
       show fJ _ _ _ _ _ _ 7 (Array.replicate 7 false) _ _
       refine bK (i:=0) (.agg #[.slice na t.N.length D,.slice ta t.tail.length M]) rfl O (bB rfl (fun W S=>by rw [hI] at S;obtain ⟨h1,h2⟩:=S;go_simp)) ?_;refine bK (i:=2) (.pointer (some ⟨w.heap.size,0,none⟩)) rfl O (bB rfl (fun W S=>by rw [hI] at S;obtain ⟨h1,h2⟩:=S;go_simp)) ?_;refine bK (i:=3) (.slice na t.N.length D) rfl O (bB rfl (fun W S=>by rw [hI] at S;obtain ⟨h1,h2⟩:=S;go_simp)) ?_;refine bK (i:=4) (.int .i64 t.N.length) rfl O (bB rfl (fun W S=>by rw [hI] at S;obtain ⟨h1,h2⟩:=S;go_simp)) ?_;refine aD (i:=1) (by kernel_rfl) (dY rfl rfl (by go_simp) HE.out ?_);rintro e w6 ⟨rfl,g⟩;have G6:=aB (aA HW.out g);have a4:I w6:=(by rw [hI];exact ⟨g.cell c6 (by simp),g.cell c7 (by simp)⟩);clear g;refine ⟨_,rfl,.inr a4,?_⟩;refine aD (i:=5) (by kernel_rfl) (aF (v:=.bool (decide (pl=(t.N.length:Int)))) rfl rfl (by go_simp;rfl) ⟨.inr a4,?_⟩);refine aD (i:=6) (by kernel_rfl) (aF (v:=.bool (decide (pl=(t.N.length:Int)))) rfl rfl (by go_simp) ⟨.inr a4,?_⟩);refine bL (by kernel_rfl) ?_ _;clear O a4;subst hI;go_wp2;go_ret;exact ⟨by rw [f4.out];rfl,G6.out⟩
end Go.Proofs.YtmfehflibkokbaaGreatDoor
namespace Go.Proofs.YtmfehflibkokbaaGreatDoor
open Go.Proofs.Tryz
open Go.RowKit
attribute [-go_sem] Builtin.append_
structure pM (t:Tre):Prop where
 len:t.N.length<=4000
 nd:∀ p∈t.N,fB fO nL p
 ok:∀ p∈t.N,xJ p
 cn:∀ p∈t.N,-9223372036854775808<=p.C/\p.C<=9223372036854775807
 wt:wNs t.N<=2000000
theorem kO:∀ (y:List Nod) (p:Nod),p∈y->wN p<=wNs y
 | [],p,h=>by simp at h
 | q::y,p,h=>by
   simp only [wNs];rcases List.mem_cons.1 h with rfl | h
   ·omega
   ·have:=kO y p h;omega
theorem aCg (t:Tre) (ind:Int) (hD:pM t) (i:Nat) (hi:i<t.N.length) (hk:t.N[i].k<5) (nv tv:Value) (w:World) (hv:eF w.heap.size w nv tv t) :
  Calls prog 41 #[.agg #[nv,tv],.int .i64 i,.int .i64 ind] w fun e w'=>∃ v',e=.returned v'/\PoR w.heap.size w' v' (fA t.N[i])/\w.grownBy w' none:=by
 obtain ⟨b5,d0⟩:=id hv;obtain ⟨na,d2,g0,_⟩:=id b5;obtain ⟨ta,c7,g2,_⟩:=id d0;obtain ⟨b,off,h7,lv,kv,xv,uv,qv,g1,j2,O⟩:=b5.at i hi;have d3:=hD.nd _ (List.getElem_mem hi);have b3:=hD.ok _ (List.getElem_mem hi);have f6:=Nat.le_trans (kO _ _ (List.getElem_mem hi)) hD.wt;have i7:6*t.N[i].U.length<=2000000:=(by have:=f6;unfold wN at this;omega);have j1:t.N[i].X.length<=1048576:=b3.x.1;have i5:=b3.u;have Z:∀ W:World,w.grownBy W none->RdB W.heap.size W xv t.N[i].X:=fun W g=>((O.rx.K g).wideC g.size);have gB:∀ W:World,w.grownBy W none->RdI W.heap.size W uv t.N[i].U:=fun W g=>((O.ru.K g).wideC g.size);have HX:Hid (∀ W:World,w.grownBy W none->_):=fun W (g:w.grownBy W none)=>jG xv t.N[i].X W (Z W g) (by omega);have HU:Hid (∀ W:World,w.grownBy W none->_):=fun W (g:w.grownBy W none)=>sG uv t.N[i].U W (gB W g) (by omega);have z0:=O.k;have z1:=O.L;have z2:=O.mem;have z3:=O.key;have z4:=O.X;have z5:=O.U;have z6:=O.C;have z7:=O.tail;obtain ⟨la,A,d8,_,_⟩:=O.rl.sl;obtain ⟨qa,G,f4,_,_⟩:=O.rt.sl;obtain ⟨ka,E,d9,_,_⟩:=O.sk;obtain ⟨xa,D,f5,_,_⟩:=O.sx;obtain ⟨ua,y,f7,_,_⟩:=O.su;subst d8 f4 d9 f5 f7 g1 g2;cases g0;have a7:=d3.1.1;have hq:=aB9 t.N[i].U;clear b5 d0 hv O b3 d3 Z gB;generalize t.N[i]=p at *;obtain ⟨wA,b4⟩:∃ wA,wA=w.alloc (Obj.cells #[.slice (some ⟨b,off,none⟩) t.N.length d2,.slice ta t.tail.length c7] 26):=⟨_,rfl⟩;have Z:w.grownBy wA none:=(by rw [b4];exact gWA);have a6:=Z.cell z0 (by simp);have i4:=Z.cell z1 (by simp);have j4:=Z.cell z2 (by simp);have i6:=Z.cell z3 (by simp);have i9:=Z.cell z4 (by simp);have i3:=Z.cell z5 (by simp);have j5:=Z.cell z6 (by simp);have j0:=Z.cell z7 (by simp);have sA:wA.heap.size=w.heap.size+1:=(by rw [b4];simp);clear z0 z1 z2 z3 z4 z5 z6 z7;have g3:∀ o1 o2:Obj,w.grownBy ((wA.alloc o1).alloc o2) none:=fun o1 o2=>aA Z (aA gWA gWA);have G3:=aB g3;subst b4;clear Z g3;have f3:p.k=0\/p.k=1\/p.k=2\/p.k=3\/p.k=4:=(by omega);rcases f3 with h | h | h | h | h
 ·have HS:=aB (show fA p=aG [110,117,108,108] by unfold fA;rw [if_neg (by omega),if_neg (by omega),if_pos h]);have HT:Hid (∀ W:World,_):=fun W=>cL [110,117,108,108] (by intro z hz;simp at hz;omega) (by simp) W;rw [h] at a6 hk a7
  go_enter func41,ntmps41
  go_wp2_with fail
  refine (HT.out _).mono ?_;rintro e w4 ⟨v4,rfl,J,S⟩;have Y:=G3.out (Obj.cells #[.int .i64 0,.slice la p.L.length A,.bool p.mem,.slice ka p.key.length E,.slice xa p.X.length D,.slice ua p.U.length y,.int .i64 p.C,.slice qa p.tail.length G] 35) (Obj.cells #[.string { data:=#[110,117,108,108] },.string { data:=#[116,114,117,101] },.string { data:=#[102,97,108,115,101] }] 9);have HG:=aB (aA Y S);have HO:=aB (J.base Y.size);obtain ⟨a4,c4,M,_,_⟩:=J.sl;subst M;clear J S HX HU HT Y;go_wp2;go_ret;exact ⟨_,rfl,by rw [HS.out];exact HO.out,HG.out⟩
 ·have HS:=aB (show fA p=aG [116,114,117,101] by unfold fA;rw [if_neg (by omega),if_neg (by omega),if_neg (by omega),if_pos h]);have HT:Hid (∀ W:World,_):=fun W=>cL [116,114,117,101] (by intro z hz;simp at hz;omega) (by simp) W;rw [h] at a6 hk a7
  go_enter func41,ntmps41
  go_wp2_with fail
  refine (HT.out _).mono ?_;rintro e w4 ⟨v4,rfl,J,S⟩;have Y:=G3.out (Obj.cells #[.int .i64 1,.slice la p.L.length A,.bool p.mem,.slice ka p.key.length E,.slice xa p.X.length D,.slice ua p.U.length y,.int .i64 p.C,.slice qa p.tail.length G] 35) (Obj.cells #[.string { data:=#[110,117,108,108] },.string { data:=#[116,114,117,101] },.string { data:=#[102,97,108,115,101] }] 9);have HG:=aB (aA Y S);have HO:=aB (J.base Y.size);obtain ⟨a4,c4,M,_,_⟩:=J.sl;subst M;clear J S HX HU HT Y;go_wp2;go_ret;exact ⟨_,rfl,by rw [HS.out];exact HO.out,HG.out⟩
 ·have HS:=aB (show fA p=aG [102,97,108,115,101] by unfold fA;rw [if_neg (by omega),if_neg (by omega),if_neg (by omega),if_neg (by omega)]);have HT:Hid (∀ W:World,_):=fun W=>cL [102,97,108,115,101] (by intro z hz;simp at hz;omega) (by simp) W;rw [h] at a6 hk a7
  go_enter func41,ntmps41
  go_wp2_with fail
  refine (HT.out _).mono ?_;rintro e w4 ⟨v4,rfl,J,S⟩;have Y:=G3.out (Obj.cells #[.int .i64 2,.slice la p.L.length A,.bool p.mem,.slice ka p.key.length E,.slice xa p.X.length D,.slice ua p.U.length y,.int .i64 p.C,.slice qa p.tail.length G] 35) (Obj.cells #[.string { data:=#[110,117,108,108] },.string { data:=#[116,114,117,101] },.string { data:=#[102,97,108,115,101] }] 9);have HG:=aB (aA Y S);have HO:=aB (J.base Y.size);obtain ⟨a4,c4,M,_,_⟩:=J.sl;subst M;clear J S HX HU HT Y;go_wp2;go_ret;exact ⟨_,rfl,by rw [HS.out];exact HO.out,HG.out⟩
 ·have HS:=aB (show fA p=aG p.X by unfold fA;rw [if_pos h]);rw [h] at a6 hk a7
  go_enter func41,ntmps41
  go_wp2_with fail
  refine (HX.out _ (G3.out _ _)).mono ?_;rintro e w4 ⟨v4,rfl,J,S⟩;have HG:=aB (aA (G3.out (Obj.cells #[.int .i64 3,.slice la p.L.length A,.bool p.mem,.slice ka p.key.length E,.slice xa p.X.length D,.slice ua p.U.length y,.int .i64 p.C,.slice qa p.tail.length G] 35) (Obj.cells #[.string { data:=#[110,117,108,108] },.string { data:=#[116,114,117,101] },.string { data:=#[102,97,108,115,101] }] 9)) S);have HO:=aB (J.base (G3.out (Obj.cells #[.int .i64 3,.slice la p.L.length A,.bool p.mem,.slice ka p.key.length E,.slice xa p.X.length D,.slice ua p.U.length y,.int .i64 p.C,.slice qa p.tail.length G] 35) (Obj.cells #[.string { data:=#[110,117,108,108] },.string { data:=#[116,114,117,101] },.string { data:=#[102,97,108,115,101] }] 9)).size);obtain ⟨a4,c4,M,_,_⟩:=J.sl;subst M;clear J S HX HU;go_wp2;go_ret;exact ⟨_,rfl,by rw [HS.out];exact HO.out,HG.out⟩
 ·have HS:=aB (show fA p=aG (quR p.U).1 by unfold fA;rw [if_neg (by omega),if_pos h]);rw [h] at a6 hk a7
  go_enter func41,ntmps41
  go_wp2_with fail
  refine (HU.out _ (G3.out _ _)).mono ?_;rintro e w4 ⟨v4,rfl,J,S⟩;have Y:=aA (G3.out (Obj.cells #[.int .i64 4,.slice la p.L.length A,.bool p.mem,.slice ka p.key.length E,.slice xa p.X.length D,.slice ua p.U.length y,.int .i64 p.C,.slice qa p.tail.length G] 35) (Obj.cells #[.string { data:=#[110,117,108,108] },.string { data:=#[116,114,117,101] },.string { data:=#[102,97,108,115,101] }] 9)) S;have HG:=aB Y;have HY:=aB (jG v4 _ w4 J.rd (by omega));obtain ⟨a4,c4,M,_,_⟩:=J.sl;subst M;clear J S HX HU Y;generalize (quR p.U).1=qs at *
  go_wp2_with fail
  refine HY.out.mono ?_;rintro e w5 ⟨v5,rfl,o5,g5⟩;have HO:=aB (o5.base HG.out.size);obtain ⟨a5,c5,f9,_,_⟩:=o5.sl;subst f9;clear o5 HY;go_wp2;go_ret;exact ⟨_,rfl,by rw [HS.out];exact HO.out,aA HG.out g5⟩
theorem xZ (B:Nat) (w:World) (a b c d:Value) (y pb D A:List Pc) (J:B<=w.heap.size) (M:PiR B w none a y) (N:PiR B w none b pb) (E:PiR B w none c D) (G:PiR B w none d A) :
  DiR B (w.alloc (Obj.cells #[a,b,c,d] 30)) none (.slice (some ⟨w.heap.size,0,none⟩) 4 4) [y,pb,D,A]:=by
 have g:=World.grownBy_alloc w (Obj.cells #[a,b,c,d] 30) none;refine ⟨_,4,rfl,Nat.le_refl _,by unfold maxLen;omega,fun _=>⟨w.heap.size,0,rfl,⟨J,by simp,by simp⟩,fun j O h=>?_⟩⟩
 match j,h with
 | 0,h=>simp at h;subst h;exact ⟨a,by simp [go_sem],M.K g⟩
 | 1,h=>simp at h;subst h;exact ⟨b,by simp [go_sem],N.K g⟩
 | 2,h=>simp at h;subst h;exact ⟨c,by simp [go_sem],E.K g⟩
 | 3,h=>simp at h;subst h;exact ⟨d,by simp [go_sem],G.K g⟩
 | j+4,h=>simp at h
theorem aBC (kd:Int) (x y:Value) (ps qs:List Pc) (B:Nat) (w:World) (G:PiR B w none x ps) (Y:PiR B w none y qs) (hn:mes ps<=1000000) (hm:mes qs<=1000000) :
  Calls prog 77 #[.int .i64 kd,x,y] w fun e w'=>∃ v',e=.returned v'/\PoR w.heap.size w' v' (ps++qs++[⟨kd,[],0⟩])/\w.grownBy w' none:=by
 have HX:=aB (pL x ps B w G (by omega));have HY:Hid (∀ W:World,w.grownBy W none->_):=fun W (g:w.grownBy W none)=>pL y qs B W (Y.K g) (by omega);have hl:=oW ps;have b8:=oW qs;obtain ⟨xa,xc,U,_,_⟩:=G.sl;obtain ⟨ya,yc,a9,_,_⟩:=Y.sl;subst U a9;clear G Y
 go_enter func77,ntmps77
 go_wp2_with fail
 refine HX.out.mono ?_;rintro e w1 ⟨v1,rfl,Z,N⟩;have hs:=N.size;have h:=aB Z;have D:=aB (HY.out _ N);obtain ⟨a1,c1,M,_,_⟩:=Z.sl;subst M;clear HX Z HY
 go_wp2_with fail
 refine D.out.mono ?_;rintro e w2 ⟨v2,rfl,o2,S⟩;have c7:=S.size;obtain ⟨v3,w3,b7,E,g3,h3⟩:=tJ w.heap.size w2 _ v2 ps qs (h.out.K S) ((o2.pi).turn (Zo.on _ hs (fun k e=>.inl (h.out.lt k e).2))) (by omega) (by omega);have A:=bA (aA N S) g3 (fun j e=>(h.out.lt j e).1);have b9:=A.size;obtain ⟨v4,w4,b4,o4,g4,⟨a4,c4,a7⟩,_⟩:=E.push kd 0 (.slice none 0 0) [] (by omega) (TxR.nil _ _ _) (by simp;omega);have X:=aB (bA A g4 (fun j e=>(E.lt j e).1));have O:=aB o4;obtain ⟨a2,c2,a5,_,_⟩:=o2.sl;obtain ⟨a3,c3,J,_,_⟩:=E.sl;generalize (ps++qs).length=LL at *;subst a5 J a7;clear h D o2 E o4 g3 g4 A h3;go_wp2;go_ret;exact ⟨_,rfl,O.out,X.out⟩
theorem aAV (t:Tre) (ind:Int) (hD:pM t) (i:Nat) (hi:i<t.N.length) (hk:t.N[i].k=5) (c3:t.N[i].C=0) (D:t.N[i].tail=[]) (nv tv:Value) (w:World) (hv:eF w.heap.size w nv tv t) :
  Calls prog 41 #[.agg #[nv,tv],.int .i64 i,.int .i64 ind] w fun e w'=>∃ v',e=.returned v'/\PoR w.heap.size w' v' (aG [91,93])/\w.grownBy w' none:=by
 obtain ⟨E,J⟩:=id hv;obtain ⟨na,S,a7,_⟩:=id E;obtain ⟨ta,G,D,_⟩:=id J;obtain ⟨b,off,c9,lv,kv,xv,uv,qv,a9,f4,h⟩:=E.at i hi;have b9:=Nat.le_trans (kO _ _ (List.getElem_mem hi)) hD.wt;have g7:=hD.cn _ (List.getElem_mem hi);have d6:wC t.N[i].tail<=2000000:=(by have:=b9;unfold wN at this;omega);have z0:=h.k;have z1:=h.L;have z2:=h.mem;have z3:=h.key;have z4:=h.X;have z5:=h.U;have z6:=h.C;have z7:=h.tail;have b8:=aB h.rt;obtain ⟨la,M,b2,_,_⟩:=h.rl.sl;obtain ⟨qa,a5,b0,_,_⟩:=h.rt.sl;obtain ⟨ka,O,b6,_,_⟩:=h.sk;obtain ⟨xa,Y,b4,_,_⟩:=h.sx;obtain ⟨ua,Z,b1,_,_⟩:=h.su;subst b2 b0 b6 b4 b1 a9 D;cases a7;clear E J hv h;generalize t.N[i]=p at *;obtain ⟨wA,A⟩:∃ wA,wA=w.alloc (Obj.cells #[.slice (some ⟨b,off,none⟩) t.N.length S,.slice ta t.tail.length G] 26):=⟨_,rfl⟩;have y:w.grownBy wA none:=(by rw [A];exact gWA);have b5:=y.cell z0 (by simp);have g5:=y.cell z1 (by simp);have g9:=y.cell z2 (by simp);have g3:=y.cell z3 (by simp);have g1:=y.cell z4 (by simp);have f5:=y.cell z5 (by simp);have c0:=y.cell z6 (by simp);have c2:=y.cell z7 (by simp);have sA:wA.heap.size=w.heap.size+1:=(by rw [A];simp);clear z0 z1 z2 z3 z4 z5 z6 z7;have a8:p.tail.length=0:=(by rw [D];rfl);rw [hk] at b5;rw [c3] at c0;rw [a8] at c2;have gg:w.grownBy ((wA.alloc (Obj.cells #[.int .i64 5,.slice la p.L.length M,.bool p.mem,.slice ka p.key.length O,.slice xa p.X.length Y,.slice ua p.U.length Z,.int .i64 0,.slice qa 0 a5] 35)).alloc (Obj.cells #[.string { data:=#[110,117,108,108] },.string { data:=#[116,114,117,101] },.string { data:=#[102,97,108,115,101] }] 9)) none:=aA y (aA gWA gWA);have GG:=aB gg;have HT:Hid (∀ W:World,_):=fun W=>cL [91,93] (by intro z hz;simp at hz;omega) (by simp) W;subst A;clear y gg b8
 go_enter func41,ntmps41
 go_wp2_with fail
 refine (HT.out _).mono ?_;rintro e w4 ⟨v4,rfl,o4,g4⟩;have HG:=aB (aA GG.out g4);have HO:=aB (o4.base GG.out.size);obtain ⟨a4,c4,c1,_,_⟩:=o4.sl;subst c1;clear o4 g4 HT GG;go_wp2;go_ret;exact ⟨_,rfl,HO.out,HG.out⟩
theorem aAT (t:Tre) (ind:Int) (hD:pM t) (i:Nat) (hi:i<t.N.length) (hk:t.N[i].k=6) (c3:t.N[i].C=0) (D:t.N[i].tail=[]) (nv tv:Value) (w:World) (hv:eF w.heap.size w nv tv t) :
  Calls prog 41 #[.agg #[nv,tv],.int .i64 i,.int .i64 ind] w fun e w'=>∃ v',e=.returned v'/\PoR w.heap.size w' v' (aG [123,125])/\w.grownBy w' none:=by
 obtain ⟨E,J⟩:=id hv;obtain ⟨na,S,a7,_⟩:=id E;obtain ⟨ta,G,D,_⟩:=id J;obtain ⟨b,off,c9,lv,kv,xv,uv,qv,a9,f4,h⟩:=E.at i hi;have b9:=Nat.le_trans (kO _ _ (List.getElem_mem hi)) hD.wt;have g7:=hD.cn _ (List.getElem_mem hi);have d6:wC t.N[i].tail<=2000000:=(by have:=b9;unfold wN at this;omega);have z0:=h.k;have z1:=h.L;have z2:=h.mem;have z3:=h.key;have z4:=h.X;have z5:=h.U;have z6:=h.C;have z7:=h.tail;have b8:=aB h.rt;obtain ⟨la,M,b2,_,_⟩:=h.rl.sl;obtain ⟨qa,a5,b0,_,_⟩:=h.rt.sl;obtain ⟨ka,O,b6,_,_⟩:=h.sk;obtain ⟨xa,Y,b4,_,_⟩:=h.sx;obtain ⟨ua,Z,b1,_,_⟩:=h.su;subst b2 b0 b6 b4 b1 a9 D;cases a7;clear E J hv h;generalize t.N[i]=p at *;obtain ⟨wA,A⟩:∃ wA,wA=w.alloc (Obj.cells #[.slice (some ⟨b,off,none⟩) t.N.length S,.slice ta t.tail.length G] 26):=⟨_,rfl⟩;have y:w.grownBy wA none:=(by rw [A];exact gWA);have b5:=y.cell z0 (by simp);have g5:=y.cell z1 (by simp);have g9:=y.cell z2 (by simp);have g3:=y.cell z3 (by simp);have g1:=y.cell z4 (by simp);have f5:=y.cell z5 (by simp);have c0:=y.cell z6 (by simp);have c2:=y.cell z7 (by simp);have sA:wA.heap.size=w.heap.size+1:=(by rw [A];simp);clear z0 z1 z2 z3 z4 z5 z6 z7;have a8:p.tail.length=0:=(by rw [D];rfl);rw [hk] at b5;rw [c3] at c0;rw [a8] at c2;have gg:w.grownBy ((wA.alloc (Obj.cells #[.int .i64 6,.slice la p.L.length M,.bool p.mem,.slice ka p.key.length O,.slice xa p.X.length Y,.slice ua p.U.length Z,.int .i64 0,.slice qa 0 a5] 35)).alloc (Obj.cells #[.string { data:=#[110,117,108,108] },.string { data:=#[116,114,117,101] },.string { data:=#[102,97,108,115,101] }] 9)) none:=aA y (aA gWA gWA);have GG:=aB gg;have HT:Hid (∀ W:World,_):=fun W=>cL [123,125] (by intro z hz;simp at hz;omega) (by simp) W;subst A;clear y gg b8
 go_enter func41,ntmps41
 go_wp2_with fail
 refine (HT.out _).mono ?_;rintro e w4 ⟨v4,rfl,o4,g4⟩;have HG:=aB (aA GG.out g4);have HO:=aB (o4.base GG.out.size);obtain ⟨a4,c4,c1,_,_⟩:=o4.sl;subst c1;clear o4 g4 HT GG;go_wp2;go_ret;exact ⟨_,rfl,HO.out,HG.out⟩
theorem aAK (t:Tre) (ind:Int) (hD:pM t) (i:Nat) (hi:i<t.N.length) (hk:t.N[i].k=5) (h9:t.N[i].C=0) (b1:t.N[i].tail≠[]) (nv tv:Value) (w:World) (hv:eF w.heap.size w nv tv t) :
  Calls prog 41 #[.agg #[nv,tv],.int .i64 i,.int .i64 ind] w fun e w'=>∃ v',e=.returned v'/\PoR w.heap.size w' v' (cV [aG [91],iQ ind (cU t.N[i].tail),aH 4,aG [93]])/\w.grownBy w' none:=by
 obtain ⟨b2,d9⟩:=id hv;obtain ⟨na,f6,i7,_⟩:=id b2;obtain ⟨ta,b6,b1,_⟩:=id d9;obtain ⟨b,off,l0,lv,kv,xv,uv,qv,i8,o2,h⟩:=b2.at i hi;have c1:=Nat.le_trans (kO _ _ (List.getElem_mem hi)) hD.wt;have m8:=hD.cn _ (List.getElem_mem hi);have D:wC t.N[i].tail<=2000000:=(by have:=c1;unfold wN at this;omega);have z0:=h.k;have z1:=h.L;have z2:=h.mem;have z3:=h.key;have z4:=h.X;have z5:=h.U;have z6:=h.C;have z7:=h.tail;have d6:=aB h.rt;obtain ⟨la,d0,g3,_,_⟩:=h.rl.sl;obtain ⟨qa,O,h6,_,_⟩:=h.rt.sl;obtain ⟨ka,f5,h0,_,_⟩:=h.sk;obtain ⟨xa,d4,h8,_,_⟩:=h.sx;obtain ⟨ua,b9,i3,_,_⟩:=h.su;subst g3 h6 h0 h8 i3 i8 b1;cases i7;clear b2 d9 hv h;generalize t.N[i]=p at *;obtain ⟨wA,b0⟩:∃ wA,wA=w.alloc (Obj.cells #[.slice (some ⟨b,off,none⟩) t.N.length f6,.slice ta t.tail.length b6] 26):=⟨_,rfl⟩;have A:w.grownBy wA none:=(by rw [b0];exact gWA);have i5:=A.cell z0 (by simp);have m3:=A.cell z1 (by simp);have p3:=A.cell z2 (by simp);have m7:=A.cell z3 (by simp);have n7:=A.cell z4 (by simp);have l6:=A.cell z5 (by simp);have j0:=A.cell z6 (by simp);have o0:=A.cell z7 (by simp);have sA:wA.heap.size=w.heap.size+1:=(by rw [b0];simp);clear z0 z1 z2 z3 z4 z5 z6 z7;have n5:0<p.tail.length:=List.length_pos_iff.2 b1;have l4:(0:Int)<p.tail.length:=(by omega);rw [hk] at i5;rw [h9] at j0;obtain ⟨W3,b3⟩:∃ W3,W3=(wA.alloc (Obj.cells #[.int .i64 5,.slice la p.L.length d0,.bool p.mem,.slice ka p.key.length f5,.slice xa p.X.length d4,.slice ua p.U.length b9,.int .i64 0,.slice qa p.tail.length O] 35)).alloc (Obj.cells #[.string { data:=#[110,117,108,108] },.string { data:=#[116,114,117,101] },.string { data:=#[102,97,108,115,101] }] 9):=⟨_,rfl⟩;have gg:w.grownBy W3 none:=(by rw [b3];exact aA A (aA gWA gWA));have GG:=aB gg;have d5:Hid (∀ W:World,_):=fun W=>cL [91] (by intro z hz;simp at hz;omega) (by simp) W;have b7:Hid (∀ W:World,_):=fun W=>cL [93] (by intro z hz;simp at hz;omega) (by simp) W;have HL:Hid (∀ W:World,_):=fun W=>dJ 4 W;have HA:=aB (mX (.slice none 0 0) (.slice qa p.tail.length O) [] p.tail W3.heap.size W3 (DoR.nil _ _) (Nat.le_refl _) ((d6.out.K gg).wide gg.size) (by omega) (by simp));have n9:=kS p.tail;have S:=aB D;subst b3 b0;clear A gg d6 D c1
 go_enter func41,ntmps41
 go_wp2_with fail
 refine HA.out.mono ?_;rintro e w4 ⟨v4,rfl,o4,E⟩;have g4:=aC E;simp only [List.nil_append] at o4;have HR:=aB (fV v4 _ _ w4 o4.di (by have:=g4.size;exact this) (by have:=S.out;omega));have G4:=aB (aA GG.out g4);obtain ⟨a4,c4,f8,_,_⟩:=o4.sl;generalize (cU p.tail).length=L4 at f8;subst f8;clear o4 E g4 HA
 go_wp2_with fail
 refine HR.out.mono ?_;rintro e w5 ⟨v5,rfl,o5,g5⟩;have n0:=jB (cU p.tail);have HN:=aB (oE 7 ind v5 _ _ w5 o5.pi (by have:=S.out;omega));have G5:=aB (aA G4.out g5);obtain ⟨a5,c5,d8,_,_⟩:=o5.sl;generalize (cV (cU p.tail)).length=L5 at d8;subst d8;clear o5 g5 HR
 go_wp2_with fail
 refine HN.out.mono ?_;rintro e w6 ⟨v6,rfl,o6,g6⟩;have G6:=aB (aA G5.out g6);have d3:=aB (o6.base (B':=w.heap.size) G5.out.size);obtain ⟨a6,c6,c0,_,_⟩:=o6.sl;generalize p6:(cV (cU p.tail)++[(⟨7,[],ind⟩:Pc)]).length=L6 at c0;subst c0;clear o6 g6 HN
 go_wp2_with fail
 refine (d5.out _).mono ?_;rintro e w7 ⟨v7,rfl,o7,g7⟩;have G7:=aB (aA G6.out g7);have d1:=aB (o7.base (B':=w.heap.size) G6.out.size);have J:=aB (d3.out.K g7);obtain ⟨a7,c7,f3,_,_⟩:=o7.sl;simp only [aG,List.length_singleton] at f3;subst f3;clear o7 g7 d5 d3
 go_wp2_with fail
 refine (HL.out _).mono ?_;rintro e w8 ⟨v8,rfl,o8,g8⟩;have G8:=aB (aA G7.out g8);have b4:=aB (o8.base (B':=w.heap.size) G7.out.size);have y:=aB (J.out.K g8);have G:=aB (d1.out.K g8);obtain ⟨a8,c8,d2,_,_⟩:=o8.sl;simp only [aH,List.length_singleton] at d2;subst d2;clear o8 g8 HL J d1
 go_wp2_with fail
 refine (b7.out _).mono ?_;rintro e w9 ⟨v9,rfl,o9,g9⟩;have G9:=aB (aA G8.out g9);obtain ⟨a9,c9,f7,_,_⟩:=o9.sl;simp only [aG,List.length_singleton] at f7;have b8:=xZ w.heap.size w9 _ _ _ _ _ _ _ _ G9.out.size (G.out.K g9).pi (y.out.K g9).pi (b4.out.K g9).pi (o9.base (B':=w.heap.size) G8.out.size).pi
 have h2:cR [aG [91],cV (cU p.tail)++[(⟨7,[],ind⟩:Pc)],aH 4,aG [93]]<=4194304:=by
  have:=S.out;simp only [cR,iI,aG,aH,mes,List.length_cons,List.length_nil];omega
 have Y:=World.grownBy_alloc w9 (Obj.cells #[.slice a7 1 c7,.slice a6 L6 c6,.slice a8 1 c8,v9] 30) none;have HF:=aB (fV _ _ w.heap.size _ b8 (by have:=(aA G9.out Y).size;exact this) h2);have h1:=aB (aA G9.out Y);subst f7;clear o9 g9 b7 y G b4 b8 Y
 go_wp2_with fail
 refine HF.out.mono ?_;rintro e n4 ⟨m0,rfl,Z,d7⟩;have c2:=aB Z;have h7:=aB (aA h1.out d7);obtain ⟨n8,l8,M,_,_⟩:=Z.sl;generalize (cV [aG [91],cV (cU p.tail)++[(⟨7,[],ind⟩:Pc)],aH 4,aG [93]]).length=L11 at M;subst M;clear Z d7 HF;go_wp2;go_ret;exact ⟨_,rfl,c2.out,h7.out⟩
theorem aAO (t:Tre) (ind:Int) (hD:pM t) (i:Nat) (hi:i<t.N.length) (hk:t.N[i].k=6) (h9:t.N[i].C=0) (b1:t.N[i].tail≠[]) (nv tv:Value) (w:World) (hv:eF w.heap.size w nv tv t) :
  Calls prog 41 #[.agg #[nv,tv],.int .i64 i,.int .i64 ind] w fun e w'=>∃ v',e=.returned v'/\PoR w.heap.size w' v' (cV [aG [123],iQ ind (cU t.N[i].tail),aH 4,aG [125]])/\w.grownBy w' none:=by
 obtain ⟨b2,d9⟩:=id hv;obtain ⟨na,f6,i7,_⟩:=id b2;obtain ⟨ta,b6,b1,_⟩:=id d9;obtain ⟨b,off,l0,lv,kv,xv,uv,qv,i8,o2,h⟩:=b2.at i hi;have c1:=Nat.le_trans (kO _ _ (List.getElem_mem hi)) hD.wt;have m8:=hD.cn _ (List.getElem_mem hi);have D:wC t.N[i].tail<=2000000:=(by have:=c1;unfold wN at this;omega);have z0:=h.k;have z1:=h.L;have z2:=h.mem;have z3:=h.key;have z4:=h.X;have z5:=h.U;have z6:=h.C;have z7:=h.tail;have d6:=aB h.rt;obtain ⟨la,d0,g3,_,_⟩:=h.rl.sl;obtain ⟨qa,O,h6,_,_⟩:=h.rt.sl;obtain ⟨ka,f5,h0,_,_⟩:=h.sk;obtain ⟨xa,d4,h8,_,_⟩:=h.sx;obtain ⟨ua,b9,i3,_,_⟩:=h.su;subst g3 h6 h0 h8 i3 i8 b1;cases i7;clear b2 d9 hv h;generalize t.N[i]=p at *;obtain ⟨wA,b0⟩:∃ wA,wA=w.alloc (Obj.cells #[.slice (some ⟨b,off,none⟩) t.N.length f6,.slice ta t.tail.length b6] 26):=⟨_,rfl⟩;have A:w.grownBy wA none:=(by rw [b0];exact gWA);have i5:=A.cell z0 (by simp);have m3:=A.cell z1 (by simp);have p3:=A.cell z2 (by simp);have m7:=A.cell z3 (by simp);have n7:=A.cell z4 (by simp);have l6:=A.cell z5 (by simp);have j0:=A.cell z6 (by simp);have o0:=A.cell z7 (by simp);have sA:wA.heap.size=w.heap.size+1:=(by rw [b0];simp);clear z0 z1 z2 z3 z4 z5 z6 z7;have n5:0<p.tail.length:=List.length_pos_iff.2 b1;have l4:(0:Int)<p.tail.length:=(by omega);rw [hk] at i5;rw [h9] at j0;obtain ⟨W3,b3⟩:∃ W3,W3=(wA.alloc (Obj.cells #[.int .i64 6,.slice la p.L.length d0,.bool p.mem,.slice ka p.key.length f5,.slice xa p.X.length d4,.slice ua p.U.length b9,.int .i64 0,.slice qa p.tail.length O] 35)).alloc (Obj.cells #[.string { data:=#[110,117,108,108] },.string { data:=#[116,114,117,101] },.string { data:=#[102,97,108,115,101] }] 9):=⟨_,rfl⟩;have gg:w.grownBy W3 none:=(by rw [b3];exact aA A (aA gWA gWA));have GG:=aB gg;have d5:Hid (∀ W:World,_):=fun W=>cL [123] (by intro z hz;simp at hz;omega) (by simp) W;have b7:Hid (∀ W:World,_):=fun W=>cL [125] (by intro z hz;simp at hz;omega) (by simp) W;have HL:Hid (∀ W:World,_):=fun W=>dJ 4 W;have HA:=aB (mX (.slice none 0 0) (.slice qa p.tail.length O) [] p.tail W3.heap.size W3 (DoR.nil _ _) (Nat.le_refl _) ((d6.out.K gg).wide gg.size) (by omega) (by simp));have n9:=kS p.tail;have S:=aB D;subst b3 b0;clear A gg d6 D c1
 go_enter func41,ntmps41
 go_wp2_with fail
 refine HA.out.mono ?_;rintro e w4 ⟨v4,rfl,o4,E⟩;have g4:=aC E;simp only [List.nil_append] at o4;have HR:=aB (fV v4 _ _ w4 o4.di (by have:=g4.size;exact this) (by have:=S.out;omega));have G4:=aB (aA GG.out g4);obtain ⟨a4,c4,f8,_,_⟩:=o4.sl;generalize (cU p.tail).length=L4 at f8;subst f8;clear o4 E g4 HA
 go_wp2_with fail
 refine HR.out.mono ?_;rintro e w5 ⟨v5,rfl,o5,g5⟩;have n0:=jB (cU p.tail);have HN:=aB (oE 7 ind v5 _ _ w5 o5.pi (by have:=S.out;omega));have G5:=aB (aA G4.out g5);obtain ⟨a5,c5,d8,_,_⟩:=o5.sl;generalize (cV (cU p.tail)).length=L5 at d8;subst d8;clear o5 g5 HR
 go_wp2_with fail
 refine HN.out.mono ?_;rintro e w6 ⟨v6,rfl,o6,g6⟩;have G6:=aB (aA G5.out g6);have d3:=aB (o6.base (B':=w.heap.size) G5.out.size);obtain ⟨a6,c6,c0,_,_⟩:=o6.sl;generalize p6:(cV (cU p.tail)++[(⟨7,[],ind⟩:Pc)]).length=L6 at c0;subst c0;clear o6 g6 HN
 go_wp2_with fail
 refine (d5.out _).mono ?_;rintro e w7 ⟨v7,rfl,o7,g7⟩;have G7:=aB (aA G6.out g7);have d1:=aB (o7.base (B':=w.heap.size) G6.out.size);have J:=aB (d3.out.K g7);obtain ⟨a7,c7,f3,_,_⟩:=o7.sl;simp only [aG,List.length_singleton] at f3;subst f3;clear o7 g7 d5 d3
 go_wp2_with fail
 refine (HL.out _).mono ?_;rintro e w8 ⟨v8,rfl,o8,g8⟩;have G8:=aB (aA G7.out g8);have b4:=aB (o8.base (B':=w.heap.size) G7.out.size);have y:=aB (J.out.K g8);have G:=aB (d1.out.K g8);obtain ⟨a8,c8,d2,_,_⟩:=o8.sl;simp only [aH,List.length_singleton] at d2;subst d2;clear o8 g8 HL J d1
 go_wp2_with fail
 refine (b7.out _).mono ?_;rintro e w9 ⟨v9,rfl,o9,g9⟩;have G9:=aB (aA G8.out g9);obtain ⟨a9,c9,f7,_,_⟩:=o9.sl;simp only [aG,List.length_singleton] at f7;have b8:=xZ w.heap.size w9 _ _ _ _ _ _ _ _ G9.out.size (G.out.K g9).pi (y.out.K g9).pi (b4.out.K g9).pi (o9.base (B':=w.heap.size) G8.out.size).pi
 have h2:cR [aG [123],cV (cU p.tail)++[(⟨7,[],ind⟩:Pc)],aH 4,aG [125]]<=4194304:=by
  have:=S.out;simp only [cR,iI,aG,aH,mes,List.length_cons,List.length_nil];omega
 have Y:=World.grownBy_alloc w9 (Obj.cells #[.slice a7 1 c7,.slice a6 L6 c6,.slice a8 1 c8,v9] 30) none;have HF:=aB (fV _ _ w.heap.size _ b8 (by have:=(aA G9.out Y).size;exact this) h2);have h1:=aB (aA G9.out Y);subst f7;clear o9 g9 b7 y G b4 b8 Y
 go_wp2_with fail
 refine HF.out.mono ?_;rintro e n4 ⟨m0,rfl,Z,d7⟩;have c2:=aB Z;have h7:=aB (aA h1.out d7);obtain ⟨n8,l8,M,_,_⟩:=Z.sl;generalize (cV [aG [123],cV (cU p.tail)++[(⟨7,[],ind⟩:Pc)],aH 4,aG [125]]).length=L11 at M;subst M;clear Z d7 HF;go_wp2;go_ret;exact ⟨_,rfl,c2.out,h7.out⟩
end Go.Proofs.YtmfehflibkokbaaGreatDoor
namespace Go.Proofs.YtmfehflibkokbaaGreatDoor
open Go.Proofs.Tryz
open Go.RowKit
theorem aDb (t:Tre) (d:Nat) (m:Bool) (a:Nat) (A:List Nod) (y:aE bC d m (t.N.drop a,())=some (A,())) (h:a<t.N.length):t.N[a].mem=m:=by
 cases d with
 | zero=>simp [aE] at y
 | succ d=>
   rw [List.drop_eq_getElem_cons h] at y
   by_cases h:t.N[a].mem≠m
   ·simp [aE,h] at y
   ·simpa using h
theorem aC6 {α:Type} (l P S:List α) (h:l=P++S):S=l.drop (l.length - S.length)/\S.length<=l.length:=by
 subst h;refine ⟨?_,by simp⟩;rw [show (P++S).length - S.length=P.length by simp];simp
theorem aDl (t:Tre) (ind:Int) (d:Nat) (m:Bool) (i c:Nat) (y:List Nod) (hw:aO (aE bC d m) c (t.N.drop i,())=some (y,())) (X:∀ n∈t.N,n.k<5->n.C=0) :
  ∀ j,j<=c->∃ a,a<=t.N.length/\bF (aJ ind d) j (t.N.drop i)=t.N.drop a/\a=t.N.length - (bF (aJ ind d) j (t.N.drop i)).length/\cR (itK (aJ ind d) j (t.N.drop i))<=wNs t.N/\
   (j<c->a<t.N.length/\aE bC d m (t.N.drop a,())=some (bF (aJ ind d) (j+1) (t.N.drop i),())):=by
 intro j S;have D:∀ n∈t.N.drop i,n.k<5->n.C=0:=fun n h=>X n (List.mem_of_mem_drop h);have G:=lX (ind:=ind) (fun R y h J=>oJ ind d m R y h J) c _ y hw D;obtain ⟨P,U⟩:=(gK (bU bC d m).1 (bU bC d m).2 j).2 _ _ (G j S)
 have A:t.N=(t.N.take i++P)++bF (aJ ind d) j (t.N.drop i):=by
  rw [List.append_assoc,<- U,List.take_append_drop]
 obtain ⟨M,h2⟩:=aC6 _ _ _ A;refine ⟨t.N.length - (bF (aJ ind d) j (t.N.drop i)).length,by omega,M,rfl,?_,fun Y=>?_⟩
 ·obtain ⟨Z,O,hm⟩:=uK (ind:=ind) (fun R y h J=>rL ind d m R y h J) j _ _ (G j S) D
  have h3:wNs t.N=wNs (t.N.take i)+(wNs Z+wNs (bF (aJ ind d) j (t.N.drop i))):=by
   rw [<- vC,<- O,<- vC,List.take_append_drop]
  omega
 ·have E:=G (j+1) (by omega);rw [mY,G j S,Option.bind_some] at E;refine ⟨?_,by rw [<- M];exact E⟩;rcases Nat.lt_or_ge (t.N.length - (bF (aJ ind d) j (t.N.drop i)).length) t.N.length with h | h
  ·exact h
  ·exfalso;rw [M,List.drop_of_length_le h] at E;cases d<;>simp [aE] at E
theorem aGc {B:Nat} {w w':World} {v:Value} {J:List Nod} (h:RdN B w v J) (g:Below B w w'):RdN B w' v J:=by
 obtain ⟨a,cap,hv,O,h2,Z⟩:=h;refine ⟨a,cap,hv,O,h2,fun D=>?_⟩;obtain ⟨b,off,G,y,A⟩:=Z D;refine ⟨b,off,G,y,fun j p Y=>?_⟩;obtain ⟨lv,N,xv,M,tv,t⟩:=A j p Y;have f:∀ o v,w.cell? ⟨b,o,none⟩=some v->w'.cell? ⟨b,o,none⟩=some v:=fun o v h=>by rw [g.cell (by simpa using y)];exact h
 have E:∀ {q:IntKind} {v:Value} {zs:List Int},Rd q B w v zs->Rd q B w' v zs:=fun {q v zs} h=>by
  obtain ⟨a,cap,e,S⟩:=h;refine ⟨a,cap,e,fun D=>?_⟩;obtain ⟨b,off,G,y,A⟩:=S D;exact ⟨b,off,G,y,fun j hj=>by rw [g.cell (by simpa using y)];exact A j hj⟩
 exact ⟨lv,N,xv,M,tv,f _ _ t.k,f _ _ t.L,f _ _ t.mem,f _ _ t.key,f _ _ t.X,f _ _ t.U,f _ _ t.C,f _ _ t.tail,eH t.rl g,E t.rk,t.sk,E t.rx,t.sx,E t.ru,t.su,eH t.rt g⟩
theorem wK {h:Nat} {w w':World} {nv tv:Value} {t:Tre} (A:RdN h w nv t.N) (D:RdC h w tv t.tail) (y:h<=w.heap.size) (g:Below w.heap.size w w'):eF w'.heap.size w' nv tv t:=
 ⟨(aGc (A.wide y) g).wide g.size,(eH (D.wide y) g).wide g.size⟩
end Go.Proofs.YtmfehflibkokbaaGreatDoor
