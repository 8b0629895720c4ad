import Derived.Test.YtgifkcpdihphlaaGreatDoorMAN
import Derived.Test.YtgifkcpdihphlaaGreatDoorMAV
set_option maxHeartbeats 16000000
set_option maxRecDepth 100000
namespace Go.Proofs.YtgifkcpdihphlaaGreatDoor
open Tryz
open Go.RowKit
attribute [-go_sem] Builtin.append_
theorem aEH (v:Value) (zs:List Int) (w:World) (hv:RdI w.heap.size w v zs) (hz:∀ z∈zs,0<=z/\z<128) (hn:zs.length<=1048576) :
  Calls prog 76 #[v] w fun e w'=>∃ Z,e=.returned Z/\Bw w.heap.size w' Z zs/\w.grownBy w' none:=by
 have HV:=aB hv;obtain ⟨a,cap,L,_⟩:=id hv;subst L;clear hv
 go_enter func76,ntmps76
 go_wp2
 go_loopw [3,4] (fun o i W=>∃ (k:Nat),k<=zs.length/\i=.int .i64 k/\Bw w.heap.size W o (zs.take k)/\w.grownBy W none)
  (fun _ i _=>zs.length - (intOf i).toNat)
 case atStart=>exact ⟨0,Nat.zero_le _,rfl,Bw.nil _ _,World.grownBy.refl _ _⟩
 case round=>
  obtain ⟨k,hk,rfl,D,E⟩:=hrel;have A:(zs.take k).length=k:=(by simp;omega);obtain ⟨oa,oc,u,_,_⟩:=D.sl;rw [A] at u
  by_cases h:k<zs.length
  ·obtain ⟨a',X,e,U⟩:=HV.out.K E;simp only [Value.slice.injEq,true_and] at e;obtain ⟨rfl,rfl⟩:=e;obtain ⟨b,off,rfl,b2,Y⟩:=U (fun e=>by rw [e] at h;simp at h);have a8:=Y k h;have a5:0<=zs[k]?.getD 0/\zs[k]?.getD 0<128:=(by rw [List.getElem?_eq_getElem h];exact hz _ (List.getElem_mem h));have N:=aB (dF zs k h);have HO:=aB D;subst u;clear U Y D;generalize zs[k]?.getD 0=p at *;obtain ⟨v2,w2,S,M,O,a2,c2,y⟩:=aIu w.heap.size wr (.slice oa k oc) (zs.take k) p HO.out E.size (by omega);rw [A] at y;have J:Hid (Bw w.heap.size w2 v2 (zs.take (k+1))):=(by unfold Hid;rw [N.out];exact M);have G:=aB (aU E O (fun j e=>(HO.out.lt j e).1));subst y;clear M O N;go_wp2
   go_roundw
   case rel=>exact ⟨k+1,by omega,by go_num,J.out,G.out⟩
   case measure=>simp [intOf];omega
  ·have H:k=zs.length:=(by omega);subst H;rw [List.take_length] at D;subst u;go_wp2;go_ret;exact ⟨_,rfl,D,E⟩
theorem pG (v:Value) (j:List Int) (w:World) (hv:RdI w.heap.size w v j) (N:j.length<=1048576) :
  Calls prog 44 #[v] w fun e w'=>∃ O,e=.returned O/\Bw w.heap.size w' O (cO j)/\w.grownBy w' none:=by
 have D:=aB (zN v j w hv (by omega));have E:=aB (tJ v j w hv N);have M:=aB (fun h:nmR j=true=>aEH v j w hv (fun z Y=>(aA5 z (aAx j h z Y)).2) N);obtain ⟨a,cap,J,_⟩:=id hv;subst J;clear hv
 go_enter func44,ntmps44
 go_wp2_with fail
 refine D.out.mono ?_;rintro e Z ⟨rfl,rfl⟩;cases L:nmR j with
 | true=>
   have H:=aB (show cO j=j by unfold cO;rw [L];rfl);have A:=aB (M.out L);clear M E D
   go_wp2_with fail
   refine A.out.mono ?_;rintro e X ⟨U,rfl,y,G⟩;obtain ⟨a2,S,u,_,_⟩:=y.sl;subst u;clear A;go_wp2;go_ret;exact ⟨_,rfl,by rw [H.out];exact y,G⟩
 | false=>
   have H:=aB (show cO j=(quR j).1 by unfold cO;rw [L];rfl);clear M D
   go_wp2_with fail
   refine E.out.mono ?_;rintro e X ⟨U,rfl,y,G⟩;obtain ⟨a2,S,u,_,_⟩:=y.sl;subst u;clear E;go_wp2;go_ret;exact ⟨_,rfl,by rw [H.out];exact .inl y,G⟩
end Go.Proofs.YtgifkcpdihphlaaGreatDoor
namespace Go.Proofs.YtgifkcpdihphlaaGreatDoor
open Tryz
open Go.RowKit
theorem aCh {σ:Type} {f g:σ->Option σ} (h:∀ s j,f s=some j->g s=some j):∀ (k:Nat) (s j:σ),aN f k s=some j->aN g k s=some j
 | 0,s,j,h0=>h0
 | k+1,s,j,h0=>by
   simp only [aN,Option.bind_eq_some_iff] at h0 ⊢;obtain ⟨x,y,u⟩:=h0;exact ⟨x,h s x y,aCh h k x j u⟩
theorem aBL {σ:Type} (j:Nod->σ->Option σ):∀ (d u:Nat) (m:Bool) (s y:List Nod × σ),d<=u->aD j d m s=some y->aD j u m s=some y
 | 0,_,_,_,_,_,h=>by simp [aD] at h
 | d+1,0,_,_,_,hd,_=>by omega
 | d+1,u+1,m,([],_),y,_,h=>by simp [aD] at h
 | d+1,u+1,m,(n::R,s),y,hd,h=>by
   by_cases E:n.mem≠m
   ·simp [aD,E] at h
   ·simp only [aD,if_neg E] at h ⊢;rw [Option.bind_eq_some_iff] at h ⊢;obtain ⟨x,H,A⟩:=h;refine ⟨x,H,?_⟩
    by_cases G:5<=n.k/\d=0
    ·rw [if_pos G] at A;cases A
    ·rw [if_neg G] at A;rw [if_neg (by omega)];exact aCh (fun a b D=>aBL j d u _ a b (by omega) D) _ _ _ A
theorem kO (t:Tre) (hn:t.N.length<=1048576) (hc:∀ p∈t.N,p.k<5->p.C=0) (hb:∀ p∈t.N,-9223372036854775808<=p.C/\p.C<=9223372036854775807) (d i:Nat) (m:Bool) (U:List Nod) (hd:d<=202) (hi:i<t.N.length) (M:aD aZ d m (t.N.drop i,())=some (U,()))
  (nv tv:Value) (w:World) (hv:dG w.heap.size w nv tv t) :
  Calls prog 45 #[.agg #[nv,tv],.int .i64 i] w fun e w'=>e=.returned (.int .i64 ((t.N.length - U.length:Nat):Int))/\w.grownBy w' none:=by
 have hm:t.N[i].mem=m:=by
  cases d with
  | zero=>simp [aD] at M
  | succ d=>
    rw [List.drop_eq_getElem_cons hi] at M
    by_cases h:t.N[i].mem≠m
    ·simp [aD,h] at M
    ·simpa using h
 have hR:U.length<=t.N.length:=by
  obtain ⟨P,hP⟩:=(bV aZ d m).2 _ _ M;have:=congrArg List.length hP;simp at this;omega
 have he:dA t.N.length (iF t.N.length 202 m (t.N.drop i))=((t.N.length - U.length:Nat):Int):=by
  have E:=rL t.N.length 202 m (t.N.drop i) (by simp);rw [aBL aZ d 202 m _ _ hd M] at E;cases hx:iF t.N.length 202 m (t.N.drop i) with
  | none=>rw [hx] at E;simp at E
  | some R=>rw [hx] at E;simp at E;subst E;simp only [dA];omega
 obtain ⟨D,H⟩:=id hv;obtain ⟨na,u,a5,_⟩:=id D;obtain ⟨Z,y,a8,_⟩:=id H;obtain ⟨b,off,b6,lv,kv,xv,uv,c9,a7,c6,hp⟩:=D.at i hi;have HC:Hid (∀ W:World,w.grownBy W none->_):=fun W (g:w.grownBy W none)=>aBM t hn hc hb 201 (by omega) i m nv tv W (by omega) ⟨(D.K g).wide g.size,(H.K g).wide g.size⟩;have z2:=hp.mem;rw [hm] at z2;have HE:=aB he;subst a7;subst a8;cases a5;clear D H hv M he hp hm hc hb;have O:=(World.grownBy_alloc w (Obj.cells #[.slice (some ⟨b,off,none⟩) t.N.length u,.slice Z t.tail.length y] 33) none).cell z2 (by simp)
 go_enter func45,ntmps45
 obtain ⟨WA,J⟩:∃ WA,WA=w.alloc (Obj.cells #[.slice (some ⟨b,off,none⟩) t.N.length u,.slice Z t.tail.length y] 33):=⟨_,rfl⟩;obtain ⟨I,L⟩:∃ I:World->Prop,I=(fun W:World=>W.cell? ⟨w.heap.size,0,none⟩=some (.slice (some ⟨b,off,none⟩) t.N.length u)/\W.cell? ⟨w.heap.size,1,none⟩=some (.slice Z t.tail.length y)/\W.cell? ⟨b,off+i*8+2,none⟩=some (.bool m)):=⟨_,rfl⟩;have j:I WA.drew:=(by rw [L,J];exact ⟨by simp [go_sem],by simp [go_sem],O⟩);have gA:w.grownBy WA.drew none:=(by rw [J];exact aA gWA ⟨rfl,rfl,rfl,Nat.le_refl _,fun _ _ _=>rfl⟩);have Y:=aB (HC.out _ gA);go_wp2;rw [<- J];refine cS I (fun _=>false) (by kernel_rfl) ?_
 show kZ _ _ _ _ _ _ 10 (Array.replicate 10 false) _ _
 refine bE (i:=0) (.agg #[.slice (some ⟨b,off,none⟩) t.N.length u,.slice Z t.tail.length y]) rfl j (cC rfl (fun W A=>by rw [L] at A;obtain ⟨E,h2,h3⟩:=A;go_simp)) ?_;refine bE (i:=1) (.int .i64 i) rfl j (cC rfl (fun W A=>by go_simp)) ?_;refine bE (i:=2) (.pointer (some ⟨w.heap.size,0,none⟩)) rfl j (cC rfl (fun W A=>by go_simp)) ?_;refine bE (i:=3) (.slice (some ⟨b,off,none⟩) t.N.length u) rfl j (cC rfl (fun W A=>by rw [L] at A;obtain ⟨E,h2,h3⟩:=A;go_simp)) ?_;refine bE (i:=4) (.int .i64 i) rfl j (cC rfl (fun W A=>by go_simp)) ?_;refine bE (i:=5) (.pointer (some ⟨b,off+i*8,none⟩)) rfl j (cC rfl (fun W A=>by go_simp)) ?_;refine bE (i:=6) (.pointer (some ⟨b,off+i*8+2,none⟩)) rfl j (cC rfl (fun W A=>by go_simp)) ?_;refine bE (i:=7) (.bool m) rfl j (cC rfl (fun W A=>by rw [L] at A;obtain ⟨E,h2,h3⟩:=A;go_simp)) ?_;generalize hG:Act.put _ _ _=A0;simp [Act.put] at hG;subst hG;refine aL (i:=8) (by kernel_rfl) (eC rfl rfl (by go_simp) Y.out ?_);rintro e w1 ⟨rfl,S⟩;have X:I w1:=(by rw [L] at j ⊢;exact ⟨S.cell j.1 (by simp),S.cell j.2.1 (by simp),S.cell j.2.2 (by simp)⟩);refine ⟨_,rfl,.inr X,?_⟩;have hE:=HE.out;rw [show 201+1=202 by rfl,hE];have G:=aB (aA gA S);clear HC Y S hE z2 O;refine aL (i:=9) (by kernel_rfl) (bM (w':=w1) (v:=.int .i64 ((t.N.length - U.length:Nat):Int)) rfl rfl (by go_simp) ⟨.inr X,?_⟩);refine eD (by kernel_rfl) ?_ _;subst L;go_wp2;go_ret;exact ⟨rfl,G.out⟩
end Go.Proofs.YtgifkcpdihphlaaGreatDoor
namespace Go.Proofs.YtgifkcpdihphlaaGreatDoor
open Tryz
open Go.RowKit
attribute [-go_sem] Builtin.append_
structure iL (t:Tre):Prop where
 len:t.N.length<=4000
 nd:∀ p∈t.N,fJ gE oC p
 ok:∀ p∈t.N,zP p
 cn:∀ p∈t.N,-9223372036854775808<=p.C/\p.C<=9223372036854775807
 wt:wNs t.N<=2000000
theorem lC:∀ (j:List Nod) (p:Nod),p∈j->wN p<=wNs j
 | [],p,h=>by simp at h
 | q::j,p,h=>by
   simp only [wNs];rcases List.mem_cons.1 h with rfl | h
   ·omega
   ·have:=lC j p h;omega
theorem aC0 (t:Tre) (ind:Int) (hD:iL t) (i:Nat) (hi:i<t.N.length) (hk:t.N[i].k<5) (nv tv:Value) (w:World) (hv:dG w.heap.size w nv tv t) :
  Calls prog 36 #[.agg #[nv,tv],.int .i64 i,.int .i64 ind] w fun e w'=>∃ v',e=.returned v'/\PoR w.heap.size w' v' (fF t.N[i])/\w.grownBy w' none:=by
 obtain ⟨b3,c2⟩:=id hv;obtain ⟨na,c8,f3,_⟩:=id b3;obtain ⟨ta,d0,d7,_⟩:=id c2;obtain ⟨b,off,g7,lv,kv,xv,uv,qv,d6,i3,J⟩:=b3.at i hi;have c7:=hD.nd _ (List.getElem_mem hi);have b1:=hD.ok _ (List.getElem_mem hi);have f6:=Nat.le_trans (lC _ _ (List.getElem_mem hi)) hD.wt;have i6:6*t.N[i].U.length<=2000000:=(by have:=f6;unfold wN at this;omega);have i9:t.N[i].X.length<=1048576:=b1.x.1;have i4:=b1.u;have S:∀ W:World,w.grownBy W none->RdB W.heap.size W xv t.N[i].X:=fun W g=>((J.rx.K g).wideC g.size);have gB:∀ W:World,w.grownBy W none->RdI W.heap.size W uv t.N[i].U:=fun W g=>((J.ru.K g).wideC g.size);have HX:Hid (∀ W:World,w.grownBy W none->_):=fun W (g:w.grownBy W none)=>jL xv t.N[i].X W (S W g) (by omega);have HU:Hid (∀ W:World,w.grownBy W none->_):=fun W (g:w.grownBy W none)=>tJ uv t.N[i].U W (gB W g) (by omega);have z0:=J.k;have z1:=J.L;have z2:=J.mem;have z3:=J.key;have z4:=J.X;have z5:=J.U;have z6:=J.C;have z7:=J.tail;obtain ⟨la,D,f7,_,_⟩:=J.rl.sl;obtain ⟨qa,j,f9,_,_⟩:=J.rt.sl;obtain ⟨ka,A,d5,_,_⟩:=J.sk;obtain ⟨xa,E,d9,_,_⟩:=J.sx;obtain ⟨ua,y,d8,_,_⟩:=J.su;subst f7 f9 d5 d9 d8 d6 d7;cases f3;have Z:=c7.1.1;have hq:=aDl t.N[i].U;clear b3 c2 hv J b1 c7 S gB;generalize t.N[i]=p at *;obtain ⟨wA,b2⟩:∃ wA,wA=w.alloc (Obj.cells #[.slice (some ⟨b,off,none⟩) t.N.length c8,.slice ta t.tail.length d0] 33):=⟨_,rfl⟩;have S:w.grownBy wA none:=(by rw [b2];exact gWA);have Y:=S.cell z0 (by simp);have i1:=S.cell z1 (by simp);have i8:=S.cell z2 (by simp);have i7:=S.cell z3 (by simp);have i2:=S.cell z4 (by simp);have j2:=S.cell z5 (by simp);have j3:=S.cell z6 (by simp);have i5:=S.cell z7 (by simp);have sA:wA.heap.size=w.heap.size+1:=(by rw [b2];simp);clear z0 z1 z2 z3 z4 z5 z6 z7;have g3:∀ o1 o2:Obj,w.grownBy ((wA.alloc o1).alloc o2) none:=fun o1 o2=>aA S (aA gWA gWA);have G3:=aB g3;subst b2;clear S g3;have f4:p.k=0\/p.k=1\/p.k=2\/p.k=3\/p.k=4:=(by omega);rcases f4 with h | h | h | h | h
 ·have HS:=aB (show fF p=aG [110,117,108,108] by unfold fF;rw [if_neg (by omega),if_neg (by omega),if_pos h]);have HT:Hid (∀ W:World,_):=fun W=>cQ [110,117,108,108] (by intro z hz;simp at hz;omega) (by simp) W;rw [h] at Y hk Z
  go_enter func36,ntmps36
  go_wp2_with fail
  refine (HT.out _).mono ?_;rintro e w4 ⟨v4,rfl,H,O⟩;have M:=G3.out (Obj.cells #[.int .i64 0,.slice la p.L.length D,.bool p.mem,.slice ka p.key.length A,.slice xa p.X.length E,.slice ua p.U.length y,.int .i64 p.C,.slice qa p.tail.length j] 49) (Obj.cells #[.string { data:=#[110,117,108,108] },.string { data:=#[116,114,117,101] },.string { data:=#[102,97,108,115,101] }] 9);have HG:=aB (aA M O);have HO:=aB (H.base M.size);obtain ⟨a4,c4,G,_,_⟩:=H.sl;subst G;clear H O HX HU HT M;go_wp2;go_ret;exact ⟨_,rfl,by rw [HS.out];exact HO.out,HG.out⟩
 ·have HS:=aB (show fF p=aG [116,114,117,101] by unfold fF;rw [if_neg (by omega),if_neg (by omega),if_neg (by omega),if_pos h]);have HT:Hid (∀ W:World,_):=fun W=>cQ [116,114,117,101] (by intro z hz;simp at hz;omega) (by simp) W;rw [h] at Y hk Z
  go_enter func36,ntmps36
  go_wp2_with fail
  refine (HT.out _).mono ?_;rintro e w4 ⟨v4,rfl,H,O⟩;have M:=G3.out (Obj.cells #[.int .i64 1,.slice la p.L.length D,.bool p.mem,.slice ka p.key.length A,.slice xa p.X.length E,.slice ua p.U.length y,.int .i64 p.C,.slice qa p.tail.length j] 49) (Obj.cells #[.string { data:=#[110,117,108,108] },.string { data:=#[116,114,117,101] },.string { data:=#[102,97,108,115,101] }] 9);have HG:=aB (aA M O);have HO:=aB (H.base M.size);obtain ⟨a4,c4,G,_,_⟩:=H.sl;subst G;clear H O HX HU HT M;go_wp2;go_ret;exact ⟨_,rfl,by rw [HS.out];exact HO.out,HG.out⟩
 ·have HS:=aB (show fF p=aG [102,97,108,115,101] by unfold fF;rw [if_neg (by omega),if_neg (by omega),if_neg (by omega),if_neg (by omega)]);have HT:Hid (∀ W:World,_):=fun W=>cQ [102,97,108,115,101] (by intro z hz;simp at hz;omega) (by simp) W;rw [h] at Y hk Z
  go_enter func36,ntmps36
  go_wp2_with fail
  refine (HT.out _).mono ?_;rintro e w4 ⟨v4,rfl,H,O⟩;have M:=G3.out (Obj.cells #[.int .i64 2,.slice la p.L.length D,.bool p.mem,.slice ka p.key.length A,.slice xa p.X.length E,.slice ua p.U.length y,.int .i64 p.C,.slice qa p.tail.length j] 49) (Obj.cells #[.string { data:=#[110,117,108,108] },.string { data:=#[116,114,117,101] },.string { data:=#[102,97,108,115,101] }] 9);have HG:=aB (aA M O);have HO:=aB (H.base M.size);obtain ⟨a4,c4,G,_,_⟩:=H.sl;subst G;clear H O HX HU HT M;go_wp2;go_ret;exact ⟨_,rfl,by rw [HS.out];exact HO.out,HG.out⟩
 ·have HS:=aB (show fF p=aG p.X by unfold fF;rw [if_pos h]);rw [h] at Y hk Z
  go_enter func36,ntmps36
  go_wp2_with fail
  refine (HX.out _ (G3.out _ _)).mono ?_;rintro e w4 ⟨v4,rfl,H,O⟩;have HG:=aB (aA (G3.out (Obj.cells #[.int .i64 3,.slice la p.L.length D,.bool p.mem,.slice ka p.key.length A,.slice xa p.X.length E,.slice ua p.U.length y,.int .i64 p.C,.slice qa p.tail.length j] 49) (Obj.cells #[.string { data:=#[110,117,108,108] },.string { data:=#[116,114,117,101] },.string { data:=#[102,97,108,115,101] }] 9)) O);have HO:=aB (H.base (G3.out (Obj.cells #[.int .i64 3,.slice la p.L.length D,.bool p.mem,.slice ka p.key.length A,.slice xa p.X.length E,.slice ua p.U.length y,.int .i64 p.C,.slice qa p.tail.length j] 49) (Obj.cells #[.string { data:=#[110,117,108,108] },.string { data:=#[116,114,117,101] },.string { data:=#[102,97,108,115,101] }] 9)).size);obtain ⟨a4,c4,G,_,_⟩:=H.sl;subst G;clear H O HX HU;go_wp2;go_ret;exact ⟨_,rfl,by rw [HS.out];exact HO.out,HG.out⟩
 ·have HS:=aB (show fF p=aG (quR p.U).1 by unfold fF;rw [if_neg (by omega),if_pos h]);rw [h] at Y hk Z
  go_enter func36,ntmps36
  go_wp2_with fail
  refine (HU.out _ (G3.out _ _)).mono ?_;rintro e w4 ⟨v4,rfl,H,O⟩;have M:=aA (G3.out (Obj.cells #[.int .i64 4,.slice la p.L.length D,.bool p.mem,.slice ka p.key.length A,.slice xa p.X.length E,.slice ua p.U.length y,.int .i64 p.C,.slice qa p.tail.length j] 49) (Obj.cells #[.string { data:=#[110,117,108,108] },.string { data:=#[116,114,117,101] },.string { data:=#[102,97,108,115,101] }] 9)) O;have HG:=aB M;have HY:=aB (jL v4 _ w4 H.rd (by omega));obtain ⟨a4,c4,G,_,_⟩:=H.sl;subst G;clear H O HX HU M;generalize (quR p.U).1=qs at *
  go_wp2_with fail
  refine HY.out.mono ?_;rintro e w5 ⟨v5,rfl,o5,g5⟩;have HO:=aB (o5.base HG.out.size);obtain ⟨a5,c5,g0,_,_⟩:=o5.sl;subst g0;clear o5 HY;go_wp2;go_ret;exact ⟨_,rfl,by rw [HS.out];exact HO.out,aA HG.out g5⟩
theorem zE (B:Nat) (w:World) (a b c d:Value) (y pb A u:List Pc) (D:B<=w.heap.size) (J:PiR B w none a y) (H:PiR B w none b pb) (E:PiR B w none c A) (G:PiR B w none d u) :
  DiR B (w.alloc (Obj.cells #[a,b,c,d] 44)) none (.slice (some ⟨w.heap.size,0,none⟩) 4 4) [y,pb,A,u]:=by
 have g:=World.grownBy_alloc w (Obj.cells #[a,b,c,d] 44) none;refine ⟨_,4,rfl,Nat.le_refl _,by unfold maxLen;omega,fun _=>⟨w.heap.size,0,rfl,⟨D,by simp,by simp⟩,fun j L h=>?_⟩⟩
 match j,h with
 | 0,h=>simp at h;subst h;exact ⟨a,by simp [go_sem],J.K g⟩
 | 1,h=>simp at h;subst h;exact ⟨b,by simp [go_sem],H.K g⟩
 | 2,h=>simp at h;subst h;exact ⟨c,by simp [go_sem],E.K g⟩
 | 3,h=>simp at h;subst h;exact ⟨d,by simp [go_sem],G.K g⟩
 | j+4,h=>simp at h
theorem aCe (S:Int) (x y:Value) (ps qs:List Pc) (B:Nat) (w:World) (N:PiR B w none x ps) (Y:PiR B w none y qs) (hn:mes ps<=1000000) (hm:mes qs<=1000000) :
  Calls prog 70 #[.int .i64 S,x,y] w fun e w'=>∃ v',e=.returned v'/\PoR w.heap.size w' v' (ps++qs++[⟨S,[],0⟩])/\w.grownBy w' none:=by
 have HX:=aB (pS x ps B w N (by omega));have HY:Hid (∀ W:World,w.grownBy W none->_):=fun W (g:w.grownBy W none)=>pS y qs B W (Y.K g) (by omega);have hl:=pN ps;have b6:=pN qs;obtain ⟨xa,xc,J,_,_⟩:=N.sl;obtain ⟨ya,yc,a5,_,_⟩:=Y.sl;subst J a5;clear N Y
 go_enter func70,ntmps70
 go_wp2_with fail
 refine HX.out.mono ?_;rintro e w1 ⟨v1,rfl,o1,G⟩;have hs:=G.size;have h:=aB o1;have A:=aB (HY.out _ G);obtain ⟨a1,c1,H,_,_⟩:=o1.sl;subst H;clear HX o1 HY
 go_wp2_with fail
 refine A.out.mono ?_;rintro e w2 ⟨v2,rfl,E,X⟩;have c0:=X.size;obtain ⟨v3,w3,b3,D,g3,h3⟩:=tQ w.heap.size w2 _ v2 ps qs (h.out.K X) ((E.pi).turn (Zo.on _ hs (fun k e=>.inl (h.out.lt k e).2))) (by omega) (by omega);have u:=aU (aA G X) g3 (fun j e=>(h.out.lt j e).1);have b7:=u.size;obtain ⟨v4,w4,b0,o4,g4,⟨a4,c4,M⟩,_⟩:=D.push S 0 (.slice none 0 0) [] (by omega) (TxR.nil _ _ _) (by simp;omega);have U:=aB (aU u g4 (fun j e=>(D.lt j e).1));have Z:=aB o4;obtain ⟨a2,c2,O,_,_⟩:=E.sl;obtain ⟨a3,c3,L,_,_⟩:=D.sl;generalize (ps++qs).length=LL at *;subst O L M;clear h A E D o4 g3 g4 u h3;go_wp2;go_ret;exact ⟨_,rfl,Z.out,U.out⟩
theorem aBg (t:Tre) (ind:Int) (hD:iL t) (i:Nat) (hi:i<t.N.length) (hk:t.N[i].k=5) (c1:t.N[i].C=0) (A:t.N[i].tail=[]) (nv tv:Value) (w:World) (hv:dG w.heap.size w nv tv t) :
  Calls prog 36 #[.agg #[nv,tv],.int .i64 i,.int .i64 ind] w fun e w'=>∃ v',e=.returned v'/\PoR w.heap.size w' v' (aG [91,93])/\w.grownBy w' none:=by
 obtain ⟨y,H⟩:=id hv;obtain ⟨na,G,a9,_⟩:=id y;obtain ⟨ta,M,A,_⟩:=id H;obtain ⟨b,off,d3,lv,kv,xv,uv,qv,b9,f7,h⟩:=y.at i hi;have b1:=Nat.le_trans (lC _ _ (List.getElem_mem hi)) hD.wt;have g1:=hD.cn _ (List.getElem_mem hi);have c3:wC t.N[i].tail<=2000000:=(by have:=b1;unfold wN at this;omega);have z0:=h.k;have z1:=h.L;have z2:=h.mem;have z3:=h.key;have z4:=h.X;have z5:=h.U;have z6:=h.C;have z7:=h.tail;have b6:=aB h.rt;obtain ⟨la,E,b2,_,_⟩:=h.rl.sl;obtain ⟨qa,D,b5,_,_⟩:=h.rt.sl;obtain ⟨ka,S,a8,_,_⟩:=h.sk;obtain ⟨xa,J,a7,_,_⟩:=h.sx;obtain ⟨ua,O,a6,_,_⟩:=h.su;subst b2 b5 a8 a7 a6 b9 A;cases a9;clear y H hv h;generalize t.N[i]=p at *;obtain ⟨Y,u⟩:∃ Y,Y=w.alloc (Obj.cells #[.slice (some ⟨b,off,none⟩) t.N.length G,.slice ta t.tail.length M] 33):=⟨_,rfl⟩;have j:w.grownBy Y none:=(by rw [u];exact gWA);have Z:=j.cell z0 (by simp);have f5:=j.cell z1 (by simp);have d8:=j.cell z2 (by simp);have g2:=j.cell z3 (by simp);have g5:=j.cell z4 (by simp);have g7:=j.cell z5 (by simp);have c0:=j.cell z6 (by simp);have b7:=j.cell z7 (by simp);have sA:Y.heap.size=w.heap.size+1:=(by rw [u];simp);clear z0 z1 z2 z3 z4 z5 z6 z7;have b8:p.tail.length=0:=(by rw [A];rfl);rw [hk] at Z;rw [c1] at c0;rw [b8] at b7;have gg:w.grownBy ((Y.alloc (Obj.cells #[.int .i64 5,.slice la p.L.length E,.bool p.mem,.slice ka p.key.length S,.slice xa p.X.length J,.slice ua p.U.length O,.int .i64 0,.slice qa 0 D] 49)).alloc (Obj.cells #[.string { data:=#[110,117,108,108] },.string { data:=#[116,114,117,101] },.string { data:=#[102,97,108,115,101] }] 9)) none:=aA j (aA gWA gWA);have GG:=aB gg;have HT:Hid (∀ W:World,_):=fun W=>cQ [91,93] (by intro z hz;simp at hz;omega) (by simp) W;subst u;clear j gg b6
 go_enter func36,ntmps36
 go_wp2_with fail
 refine (HT.out _).mono ?_;rintro e w4 ⟨v4,rfl,o4,g4⟩;have HG:=aB (aA GG.out g4);have HO:=aB (o4.base GG.out.size);obtain ⟨a4,c4,b3,_,_⟩:=o4.sl;subst b3;clear o4 g4 HT GG;go_wp2;go_ret;exact ⟨_,rfl,HO.out,HG.out⟩
theorem aBx (t:Tre) (ind:Int) (hD:iL t) (i:Nat) (hi:i<t.N.length) (hk:t.N[i].k=6) (c1:t.N[i].C=0) (A:t.N[i].tail=[]) (nv tv:Value) (w:World) (hv:dG w.heap.size w nv tv t) :
  Calls prog 36 #[.agg #[nv,tv],.int .i64 i,.int .i64 ind] w fun e w'=>∃ v',e=.returned v'/\PoR w.heap.size w' v' (aG [123,125])/\w.grownBy w' none:=by
 obtain ⟨y,H⟩:=id hv;obtain ⟨na,G,a9,_⟩:=id y;obtain ⟨ta,M,A,_⟩:=id H;obtain ⟨b,off,d3,lv,kv,xv,uv,qv,b9,f7,h⟩:=y.at i hi;have b1:=Nat.le_trans (lC _ _ (List.getElem_mem hi)) hD.wt;have g1:=hD.cn _ (List.getElem_mem hi);have c3:wC t.N[i].tail<=2000000:=(by have:=b1;unfold wN at this;omega);have z0:=h.k;have z1:=h.L;have z2:=h.mem;have z3:=h.key;have z4:=h.X;have z5:=h.U;have z6:=h.C;have z7:=h.tail;have b6:=aB h.rt;obtain ⟨la,E,b2,_,_⟩:=h.rl.sl;obtain ⟨qa,D,b5,_,_⟩:=h.rt.sl;obtain ⟨ka,S,a8,_,_⟩:=h.sk;obtain ⟨xa,J,a7,_,_⟩:=h.sx;obtain ⟨ua,O,a6,_,_⟩:=h.su;subst b2 b5 a8 a7 a6 b9 A;cases a9;clear y H hv h;generalize t.N[i]=p at *;obtain ⟨Y,u⟩:∃ Y,Y=w.alloc (Obj.cells #[.slice (some ⟨b,off,none⟩) t.N.length G,.slice ta t.tail.length M] 33):=⟨_,rfl⟩;have j:w.grownBy Y none:=(by rw [u];exact gWA);have Z:=j.cell z0 (by simp);have f5:=j.cell z1 (by simp);have d8:=j.cell z2 (by simp);have g2:=j.cell z3 (by simp);have g5:=j.cell z4 (by simp);have g7:=j.cell z5 (by simp);have c0:=j.cell z6 (by simp);have b7:=j.cell z7 (by simp);have sA:Y.heap.size=w.heap.size+1:=(by rw [u];simp);clear z0 z1 z2 z3 z4 z5 z6 z7;have b8:p.tail.length=0:=(by rw [A];rfl);rw [hk] at Z;rw [c1] at c0;rw [b8] at b7;have gg:w.grownBy ((Y.alloc (Obj.cells #[.int .i64 6,.slice la p.L.length E,.bool p.mem,.slice ka p.key.length S,.slice xa p.X.length J,.slice ua p.U.length O,.int .i64 0,.slice qa 0 D] 49)).alloc (Obj.cells #[.string { data:=#[110,117,108,108] },.string { data:=#[116,114,117,101] },.string { data:=#[102,97,108,115,101] }] 9)) none:=aA j (aA gWA gWA);have GG:=aB gg;have HT:Hid (∀ W:World,_):=fun W=>cQ [123,125] (by intro z hz;simp at hz;omega) (by simp) W;subst u;clear j gg b6
 go_enter func36,ntmps36
 go_wp2_with fail
 refine (HT.out _).mono ?_;rintro e w4 ⟨v4,rfl,o4,g4⟩;have HG:=aB (aA GG.out g4);have HO:=aB (o4.base GG.out.size);obtain ⟨a4,c4,b3,_,_⟩:=o4.sl;subst b3;clear o4 g4 HT GG;go_wp2;go_ret;exact ⟨_,rfl,HO.out,HG.out⟩
theorem aA9 (t:Tre) (ind:Int) (hD:iL t) (i:Nat) (hi:i<t.N.length) (hk:t.N[i].k=5) (i7:t.N[i].C=0) (J:t.N[i].tail≠[]) (nv tv:Value) (w:World) (hv:dG w.heap.size w nv tv t) :
  Calls prog 36 #[.agg #[nv,tv],.int .i64 i,.int .i64 ind] w fun e w'=>∃ v',e=.returned v'/\PoR w.heap.size w' v' (cT [aG [91],fM ind (cW t.N[i].tail),aI 4,aG [93]])/\w.grownBy w' none:=by
 obtain ⟨Y,b4⟩:=id hv;obtain ⟨na,d1,h3,_⟩:=id Y;obtain ⟨ta,f4,J,_⟩:=id b4;obtain ⟨b,off,j0,lv,kv,xv,uv,qv,g0,m3,h⟩:=Y.at i hi;have c3:=Nat.le_trans (lC _ _ (List.getElem_mem hi)) hD.wt;have l7:=hD.cn _ (List.getElem_mem hi);have y:wC t.N[i].tail<=2000000:=(by have:=c3;unfold wN at this;omega);have z0:=h.k;have z1:=h.L;have z2:=h.mem;have z3:=h.key;have z4:=h.X;have z5:=h.U;have z6:=h.C;have z7:=h.tail;have d8:=aB h.rt;obtain ⟨la,d7,h8,_,_⟩:=h.rl.sl;obtain ⟨qa,A,i3,_,_⟩:=h.rt.sl;obtain ⟨ka,d4,f9,_,_⟩:=h.sk;obtain ⟨xa,f3,h2,_,_⟩:=h.sx;obtain ⟨ua,d3,h1,_,_⟩:=h.su;subst h8 i3 f9 h2 h1 g0 J;cases h3;clear Y b4 hv h;generalize t.N[i]=p at *;obtain ⟨wA,S⟩:∃ wA,wA=w.alloc (Obj.cells #[.slice (some ⟨b,off,none⟩) t.N.length d1,.slice ta t.tail.length f4] 33):=⟨_,rfl⟩;have u:w.grownBy wA none:=(by rw [S];exact gWA);have g3:=u.cell z0 (by simp);have l4:=u.cell z1 (by simp);have n8:=u.cell z2 (by simp);have n5:=u.cell z3 (by simp);have l9:=u.cell z4 (by simp);have p1:=u.cell z5 (by simp);have i6:=u.cell z6 (by simp);have m5:=u.cell z7 (by simp);have sA:wA.heap.size=w.heap.size+1:=(by rw [S];simp);clear z0 z1 z2 z3 z4 z5 z6 z7;have m6:0<p.tail.length:=List.length_pos_iff.2 J;have j3:(0:Int)<p.tail.length:=(by omega);rw [hk] at g3;rw [i7] at i6;obtain ⟨W3,b1⟩:∃ W3,W3=(wA.alloc (Obj.cells #[.int .i64 5,.slice la p.L.length d7,.bool p.mem,.slice ka p.key.length d4,.slice xa p.X.length f3,.slice ua p.U.length d3,.int .i64 0,.slice qa p.tail.length A] 49)).alloc (Obj.cells #[.string { data:=#[110,117,108,108] },.string { data:=#[116,114,117,101] },.string { data:=#[102,97,108,115,101] }] 9):=⟨_,rfl⟩;have gg:w.grownBy W3 none:=(by rw [b1];exact aA u (aA gWA gWA));have GG:=aB gg;have b0:Hid (∀ W:World,_):=fun W=>cQ [91] (by intro z hz;simp at hz;omega) (by simp) W;have d5:Hid (∀ W:World,_):=fun W=>cQ [93] (by intro z hz;simp at hz;omega) (by simp) W;have HL:Hid (∀ W:World,_):=fun W=>dL 4 W;have HA:=aB (nR (.slice none 0 0) (.slice qa p.tail.length A) [] p.tail W3.heap.size W3 (DoR.nil _ _) (Nat.le_refl _) ((d8.out.K gg).wide gg.size) (by omega) (by simp));have m0:=lD p.tail;have O:=aB y;subst b1 S;clear u gg d8 y c3
 go_enter func36,ntmps36
 go_wp2_with fail
 refine HA.out.mono ?_;rintro e w4 ⟨v4,rfl,o4,D⟩;have g4:=aC D;simp only [List.nil_append] at o4;have HR:=aB (gK v4 _ _ w4 o4.di (by have:=g4.size;exact this) (by have:=O.out;omega));have G4:=aB (aA GG.out g4);obtain ⟨a4,c4,b8,_,_⟩:=o4.sl;generalize (cW p.tail).length=L4 at b8;subst b8;clear o4 D g4 HA
 go_wp2_with fail
 refine HR.out.mono ?_;rintro e w5 ⟨v5,rfl,o5,g5⟩;have n2:=jF (cW p.tail);have HN:=aB (oZ 7 ind v5 _ _ w5 o5.pi (by have:=O.out;omega));have G5:=aB (aA G4.out g5);obtain ⟨a5,c5,f5,_,_⟩:=o5.sl;generalize (cT (cW p.tail)).length=L5 at f5;subst f5;clear o5 g5 HR
 go_wp2_with fail
 refine HN.out.mono ?_;rintro e w6 ⟨v6,rfl,o6,g6⟩;have G6:=aB (aA G5.out g6);have d6:=aB (o6.base (B':=w.heap.size) G5.out.size);obtain ⟨a6,c6,b2,_,_⟩:=o6.sl;generalize n6:(cT (cW p.tail)++[(⟨7,[],ind⟩:Pc)]).length=L6 at b2;subst b2;clear o6 g6 HN
 go_wp2_with fail
 refine (b0.out _).mono ?_;rintro e w7 ⟨v7,rfl,o7,g7⟩;have G7:=aB (aA G6.out g7);have c0:=aB (o7.base (B':=w.heap.size) G6.out.size);have E:=aB (d6.out.K g7);obtain ⟨a7,c7,b7,_,_⟩:=o7.sl;simp only [aG,List.length_singleton] at b7;subst b7;clear o7 g7 b0 d6
 go_wp2_with fail
 refine (HL.out _).mono ?_;rintro e w8 ⟨v8,rfl,o8,g8⟩;have G8:=aB (aA G7.out g8);have c2:=aB (o8.base (B':=w.heap.size) G7.out.size);have j:=aB (E.out.K g8);have H:=aB (c0.out.K g8);obtain ⟨a8,c8,d9,_,_⟩:=o8.sl;simp only [aI,List.length_singleton] at d9;subst d9;clear o8 g8 HL E c0
 go_wp2_with fail
 refine (d5.out _).mono ?_;rintro e w9 ⟨v9,rfl,o9,g9⟩;have G9:=aB (aA G8.out g9);obtain ⟨a9,c9,d2,_,_⟩:=o9.sl;simp only [aG,List.length_singleton] at d2;have c1:=zE w.heap.size w9 _ _ _ _ _ _ _ _ G9.out.size (H.out.K g9).pi (j.out.K g9).pi (c2.out.K g9).pi (o9.base (B':=w.heap.size) G8.out.size).pi
 have g1:bO [aG [91],cT (cW p.tail)++[(⟨7,[],ind⟩:Pc)],aI 4,aG [93]]<=4194304:=by
  have:=O.out;simp only [bO,fD,aG,aI,mes,List.length_cons,List.length_nil];omega
 have M:=World.grownBy_alloc w9 (Obj.cells #[.slice a7 1 c7,.slice a6 L6 c6,.slice a8 1 c8,v9] 44) none;have HF:=aB (gK _ _ w.heap.size _ c1 (by have:=(aA G9.out M).size;exact this) g1);have i1:=aB (aA G9.out M);subst d2;clear o9 g9 d5 j H c2 c1 M
 go_wp2_with fail
 refine HF.out.mono ?_;rintro e m9 ⟨l6,rfl,Z,b3⟩;have b9:=aB Z;have i2:=aB (aA i1.out b3);obtain ⟨p2,n1,G,_,_⟩:=Z.sl;generalize (cT [aG [91],cT (cW p.tail)++[(⟨7,[],ind⟩:Pc)],aI 4,aG [93]]).length=L11 at G;subst G;clear Z b3 HF;go_wp2;go_ret;exact ⟨_,rfl,b9.out,i2.out⟩
theorem aBj (t:Tre) (ind:Int) (hD:iL t) (i:Nat) (hi:i<t.N.length) (hk:t.N[i].k=6) (i7:t.N[i].C=0) (J:t.N[i].tail≠[]) (nv tv:Value) (w:World) (hv:dG w.heap.size w nv tv t) :
  Calls prog 36 #[.agg #[nv,tv],.int .i64 i,.int .i64 ind] w fun e w'=>∃ v',e=.returned v'/\PoR w.heap.size w' v' (cT [aG [123],fM ind (cW t.N[i].tail),aI 4,aG [125]])/\w.grownBy w' none:=by
 obtain ⟨Y,b4⟩:=id hv;obtain ⟨na,d1,h3,_⟩:=id Y;obtain ⟨ta,f4,J,_⟩:=id b4;obtain ⟨b,off,j0,lv,kv,xv,uv,qv,g0,m3,h⟩:=Y.at i hi;have c3:=Nat.le_trans (lC _ _ (List.getElem_mem hi)) hD.wt;have l7:=hD.cn _ (List.getElem_mem hi);have y:wC t.N[i].tail<=2000000:=(by have:=c3;unfold wN at this;omega);have z0:=h.k;have z1:=h.L;have z2:=h.mem;have z3:=h.key;have z4:=h.X;have z5:=h.U;have z6:=h.C;have z7:=h.tail;have d8:=aB h.rt;obtain ⟨la,d7,h8,_,_⟩:=h.rl.sl;obtain ⟨qa,A,i3,_,_⟩:=h.rt.sl;obtain ⟨ka,d4,f9,_,_⟩:=h.sk;obtain ⟨xa,f3,h2,_,_⟩:=h.sx;obtain ⟨ua,d3,h1,_,_⟩:=h.su;subst h8 i3 f9 h2 h1 g0 J;cases h3;clear Y b4 hv h;generalize t.N[i]=p at *;obtain ⟨wA,S⟩:∃ wA,wA=w.alloc (Obj.cells #[.slice (some ⟨b,off,none⟩) t.N.length d1,.slice ta t.tail.length f4] 33):=⟨_,rfl⟩;have u:w.grownBy wA none:=(by rw [S];exact gWA);have g3:=u.cell z0 (by simp);have l4:=u.cell z1 (by simp);have n8:=u.cell z2 (by simp);have n5:=u.cell z3 (by simp);have l9:=u.cell z4 (by simp);have p1:=u.cell z5 (by simp);have i6:=u.cell z6 (by simp);have m5:=u.cell z7 (by simp);have sA:wA.heap.size=w.heap.size+1:=(by rw [S];simp);clear z0 z1 z2 z3 z4 z5 z6 z7;have m6:0<p.tail.length:=List.length_pos_iff.2 J;have j3:(0:Int)<p.tail.length:=(by omega);rw [hk] at g3;rw [i7] at i6;obtain ⟨W3,b1⟩:∃ W3,W3=(wA.alloc (Obj.cells #[.int .i64 6,.slice la p.L.length d7,.bool p.mem,.slice ka p.key.length d4,.slice xa p.X.length f3,.slice ua p.U.length d3,.int .i64 0,.slice qa p.tail.length A] 49)).alloc (Obj.cells #[.string { data:=#[110,117,108,108] },.string { data:=#[116,114,117,101] },.string { data:=#[102,97,108,115,101] }] 9):=⟨_,rfl⟩;have gg:w.grownBy W3 none:=(by rw [b1];exact aA u (aA gWA gWA));have GG:=aB gg;have b0:Hid (∀ W:World,_):=fun W=>cQ [123] (by intro z hz;simp at hz;omega) (by simp) W;have d5:Hid (∀ W:World,_):=fun W=>cQ [125] (by intro z hz;simp at hz;omega) (by simp) W;have HL:Hid (∀ W:World,_):=fun W=>dL 4 W;have HA:=aB (nR (.slice none 0 0) (.slice qa p.tail.length A) [] p.tail W3.heap.size W3 (DoR.nil _ _) (Nat.le_refl _) ((d8.out.K gg).wide gg.size) (by omega) (by simp));have m0:=lD p.tail;have O:=aB y;subst b1 S;clear u gg d8 y c3
 go_enter func36,ntmps36
 go_wp2_with fail
 refine HA.out.mono ?_;rintro e w4 ⟨v4,rfl,o4,D⟩;have g4:=aC D;simp only [List.nil_append] at o4;have HR:=aB (gK v4 _ _ w4 o4.di (by have:=g4.size;exact this) (by have:=O.out;omega));have G4:=aB (aA GG.out g4);obtain ⟨a4,c4,b8,_,_⟩:=o4.sl;generalize (cW p.tail).length=L4 at b8;subst b8;clear o4 D g4 HA
 go_wp2_with fail
 refine HR.out.mono ?_;rintro e w5 ⟨v5,rfl,o5,g5⟩;have n2:=jF (cW p.tail);have HN:=aB (oZ 7 ind v5 _ _ w5 o5.pi (by have:=O.out;omega));have G5:=aB (aA G4.out g5);obtain ⟨a5,c5,f5,_,_⟩:=o5.sl;generalize (cT (cW p.tail)).length=L5 at f5;subst f5;clear o5 g5 HR
 go_wp2_with fail
 refine HN.out.mono ?_;rintro e w6 ⟨v6,rfl,o6,g6⟩;have G6:=aB (aA G5.out g6);have d6:=aB (o6.base (B':=w.heap.size) G5.out.size);obtain ⟨a6,c6,b2,_,_⟩:=o6.sl;generalize n6:(cT (cW p.tail)++[(⟨7,[],ind⟩:Pc)]).length=L6 at b2;subst b2;clear o6 g6 HN
 go_wp2_with fail
 refine (b0.out _).mono ?_;rintro e w7 ⟨v7,rfl,o7,g7⟩;have G7:=aB (aA G6.out g7);have c0:=aB (o7.base (B':=w.heap.size) G6.out.size);have E:=aB (d6.out.K g7);obtain ⟨a7,c7,b7,_,_⟩:=o7.sl;simp only [aG,List.length_singleton] at b7;subst b7;clear o7 g7 b0 d6
 go_wp2_with fail
 refine (HL.out _).mono ?_;rintro e w8 ⟨v8,rfl,o8,g8⟩;have G8:=aB (aA G7.out g8);have c2:=aB (o8.base (B':=w.heap.size) G7.out.size);have j:=aB (E.out.K g8);have H:=aB (c0.out.K g8);obtain ⟨a8,c8,d9,_,_⟩:=o8.sl;simp only [aI,List.length_singleton] at d9;subst d9;clear o8 g8 HL E c0
 go_wp2_with fail
 refine (d5.out _).mono ?_;rintro e w9 ⟨v9,rfl,o9,g9⟩;have G9:=aB (aA G8.out g9);obtain ⟨a9,c9,d2,_,_⟩:=o9.sl;simp only [aG,List.length_singleton] at d2;have c1:=zE w.heap.size w9 _ _ _ _ _ _ _ _ G9.out.size (H.out.K g9).pi (j.out.K g9).pi (c2.out.K g9).pi (o9.base (B':=w.heap.size) G8.out.size).pi
 have g1:bO [aG [123],cT (cW p.tail)++[(⟨7,[],ind⟩:Pc)],aI 4,aG [125]]<=4194304:=by
  have:=O.out;simp only [bO,fD,aG,aI,mes,List.length_cons,List.length_nil];omega
 have M:=World.grownBy_alloc w9 (Obj.cells #[.slice a7 1 c7,.slice a6 L6 c6,.slice a8 1 c8,v9] 44) none;have HF:=aB (gK _ _ w.heap.size _ c1 (by have:=(aA G9.out M).size;exact this) g1);have i1:=aB (aA G9.out M);subst d2;clear o9 g9 d5 j H c2 c1 M
 go_wp2_with fail
 refine HF.out.mono ?_;rintro e m9 ⟨l6,rfl,Z,b3⟩;have b9:=aB Z;have i2:=aB (aA i1.out b3);obtain ⟨p2,n1,G,_,_⟩:=Z.sl;generalize (cT [aG [123],cT (cW p.tail)++[(⟨7,[],ind⟩:Pc)],aI 4,aG [125]]).length=L11 at G;subst G;clear Z b3 HF;go_wp2;go_ret;exact ⟨_,rfl,b9.out,i2.out⟩
end Go.Proofs.YtgifkcpdihphlaaGreatDoor
namespace Go.Proofs.YtgifkcpdihphlaaGreatDoor
open Tryz
open Go.RowKit
theorem oN (t:Tre) (d:Nat) (m:Bool) (a:Nat) (u:List Nod) (j:aD aZ d m (t.N.drop a,())=some (u,())) (h:a<t.N.length):t.N[a].mem=m:=by
 cases d with
 | zero=>simp [aD] at j
 | succ d=>
   rw [List.drop_eq_getElem_cons h] at j
   by_cases h:t.N[a].mem≠m
   ·simp [aD,h] at j
   ·simpa using h
theorem aDK {α:Type} (l P S:List α) (h:l=P++S):S=l.drop (l.length - S.length)/\S.length<=l.length:=by
 subst h;refine ⟨?_,by simp⟩;rw [show (P++S).length - S.length=P.length by simp];simp
theorem oE (t:Tre) (ind:Int) (d:Nat) (m:Bool) (i c:Nat) (u:List Nod) (M:aN (aD aZ d m) c (t.N.drop i,())=some (u,())) (O:∀ n∈t.N,n.k<5->n.C=0) :
  ∀ j,j<=c->∃ a,a<=t.N.length/\aT (aF ind d) j (t.N.drop i)=t.N.drop a/\a=t.N.length - (aT (aF ind d) j (t.N.drop i)).length/\bO (itK (aF ind d) j (t.N.drop i))<=wNs t.N/\
   (j<c->a<t.N.length/\aD aZ d m (t.N.drop a,())=some (aT (aF ind d) (j+1) (t.N.drop i),())):=by
 intro j L;have A:∀ n∈t.N.drop i,n.k<5->n.C=0:=fun n h=>O n (List.mem_of_mem_drop h);have E:=oG (ind:=ind) (fun R u h J=>qT ind d m R u h J) c _ u M A;obtain ⟨P,X⟩:=(iH (bV aZ d m).1 (bV aZ d m).2 j).2 _ _ (E j L)
 have y:t.N=(t.N.take i++P)++aT (aF ind d) j (t.N.drop i):=by
  rw [List.append_assoc,<- X,List.take_append_drop]
 obtain ⟨H,h2⟩:=aDK _ _ _ y;refine ⟨t.N.length - (aT (aF ind d) j (t.N.drop i)).length,by omega,H,rfl,?_,fun S=>?_⟩
 ·obtain ⟨U,G,Y⟩:=vS (ind:=ind) (fun R u h J=>sS ind d m R u h J) j _ _ (E j L) A
  have Z:wNs t.N=wNs (t.N.take i)+(wNs U+wNs (aT (aF ind d) j (t.N.drop i))):=by
   rw [<- vO,<- G,<- vO,List.take_append_drop]
  omega
 ·have D:=E (j+1) (by omega);rw [nS,E j L,Option.bind_some] at D;refine ⟨?_,by rw [<- H];exact D⟩;rcases Nat.lt_or_ge (t.N.length - (aT (aF ind d) j (t.N.drop i)).length) t.N.length with h | h
  ·exact h
  ·exfalso;rw [H,List.drop_of_length_le h] at D;cases d<;>simp [aD] at D
theorem mK {B:Nat} {w w':World} {v:Value} {G:List Nod} (h:RdN B w v G) (g:Below B w w'):RdN B w' v G:=by
 obtain ⟨a,cap,hv,J,S,H⟩:=h;refine ⟨a,cap,hv,J,S,fun E=>?_⟩;obtain ⟨b,off,D,u,y⟩:=H E;refine ⟨b,off,D,u,fun j p N=>?_⟩;obtain ⟨lv,Y,Z,O,tv,t⟩:=y j p N;have f:∀ o v,w.cell? ⟨b,o,none⟩=some v->w'.cell? ⟨b,o,none⟩=some v:=fun o v h=>by rw [g.cell (by simpa using u)];exact h
 have A:∀ {q:IntKind} {v:Value} {zs:List Int},Rd q B w v zs->Rd q B w' v zs:=fun {q v zs} h=>by
  obtain ⟨a,cap,e,M⟩:=h;refine ⟨a,cap,e,fun E=>?_⟩;obtain ⟨b,off,D,u,y⟩:=M E;exact ⟨b,off,D,u,fun j hj=>by rw [g.cell (by simpa using u)];exact y j hj⟩
 exact ⟨lv,Y,Z,O,tv,f _ _ t.k,f _ _ t.L,f _ _ t.mem,f _ _ t.key,f _ _ t.X,f _ _ t.U,f _ _ t.C,f _ _ t.tail,bS t.rl g,A t.rk,t.sk,A t.rx,t.sx,A t.ru,t.su,bS t.rt g⟩
theorem oW {h:Nat} {w w':World} {nv tv:Value} {t:Tre} (y:RdN h w nv t.N) (u:RdC h w tv t.tail) (j:h<=w.heap.size) (g:Below w.heap.size w w'):dG w'.heap.size w' nv tv t:=
 ⟨(mK (y.wide j) g).wide g.size,(bS (u.wide j) g).wide g.size⟩
end Go.Proofs.YtgifkcpdihphlaaGreatDoor
