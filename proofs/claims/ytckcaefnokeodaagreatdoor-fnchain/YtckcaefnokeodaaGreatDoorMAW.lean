import Derived.Test.YtckcaefnokeodaaGreatDoorMAN
import Derived.Test.YtckcaefnokeodaaGreatDoorMAV
set_option maxHeartbeats 16000000
set_option maxRecDepth 100000
namespace Go.Proofs.YtckcaefnokeodaaGreatDoor
open Go.Proofs.Tryz Go.RowKit List World
theorem aCo {σ:Type} {f g:σ->Option σ} (h:∀ s A,f s=some A->g s=some A):∀ (k:Nat) (s A:σ),aN f k s=some A->aN g k s=some A
 | 0,s,A,h0=>h0
 | k+1,s,A,h0=>by
   simp only [aN,Option.bind_eq_some_iff] at h0 ⊢;obtain ⟨x,E,D⟩:=h0;exact ⟨x,h s x E,aCo h k x A D⟩
theorem aCm {σ:Type} (A:Nod->σ->Option σ):∀ (d D:Nat) (m:Bool) (s F:List Nod × σ),d<=D->aE A d m s=some F->aE A D m s=some F
 | 0,_,_,_,_,_,h=>by simp [aE] at h
 | d+1,0,_,_,_,hd,_=>by omega
 | d+1,D+1,m,([],_),F,_,h=>by simp [aE] at h
 | d+1,D+1,m,(n::R,s),F,hd,h=>by
   by_cases I:n.mem≠m
   .simp [aE,I] at h
   .simp only [aE,if_neg I] at h ⊢;rw [Option.bind_eq_some_iff] at h ⊢;obtain ⟨x,J,E⟩:=h;refine ⟨x,J,?_⟩
    by_cases H:5<=n.k/\d=0
    .rw [if_pos H] at E;cases E
    .rw [if_neg H] at E;rw [if_neg (by omega)];exact aCo (fun a b G=>aCm A d D _ a b (by omega) G) _ _ _ E
theorem uQ (t:Tre) (hn:t.N.length<=1048576) (hc:∀ p∈t.N,p.k<5->p.C=0) (hb:∀ p∈t.N,-9223372036854775808<=p.C/\p.C<=9223372036854775807) (d i:Nat) (m) (R2:List Nod) (hd:d<=202) (hi:i<t.N.length) (Y:aE bD d m (t.N.drop i,())=some (R2,())) (nv tv) (w:World) (hv:eV w.heap.size w nv tv t) :
  Calls prog 51 #[.agg #[nv,tv],.int .i64 i] w fun e w'=>e=.returned (.int .i64 ((t.N.length - R2.length:Nat):Int))/\w.grownBy w' none:=by
 have hm:t.N[i].mem=m:=by
  cases d with
  | zero=>simp [aE] at Y
  | succ d=>
    rw [drop_eq_getElem_cons hi] at Y
    by_cases h:t.N[i].mem≠m
    .simp [aE,h] at Y
    .simpa using h
 have hR:R2.length<=t.N.length:=by
  obtain ⟨P,hP⟩:=(cB bD d m).2 _ _ Y;have:=congrArg List.length hP;simp at this;omega
 have he:dD t.N.length (iK t.N.length 202 m (t.N.drop i))=((t.N.length - R2.length:Nat):Int):=by
  have J:=qY t.N.length 202 m (t.N.drop i) (by simp);rw [aCm bD d 202 m _ _ hd Y] at J;cases hx:iK t.N.length 202 m (t.N.drop i) with
  | none=>rw [hx] at J;simp at J
  | some R=>rw [hx] at J;simp at J;subst J;simp only [dD];omega
 obtain ⟨M,S⟩:=id hv;obtain ⟨na,D,a8,_⟩:=id M;obtain ⟨ta,F,b0,_⟩:=id S;obtain ⟨b,E,c2,lv,kv,xv,uv,d4,b2,d3,hp⟩:=M.at i hi;have HC:Hid (∀ W:World,w.grownBy W none->_):=fun W (g:w.grownBy W none)=>aCJ t hn hc hb 201 (by omega) i m nv tv W (by omega) ⟨(M.K g).wide g.size,(S.K g).wide g.size⟩;have z2:=hp.mem;rw [hm] at z2;have HE:=aB he;subst b2;subst b0;cases a8;clear M S hv Y he hp hm hc hb;have a0:=(grownBy_alloc w (Obj.cells #[.slice (some ⟨b,E,none⟩) t.N.length D,.slice ta t.tail.length F] 26) none).cell z2 (by simp)
 go_enter func51,ntmps51
 obtain ⟨WA,O⟩:∃ WA,WA=w.alloc (Obj.cells #[.slice (some ⟨b,E,none⟩) t.N.length D,.slice ta t.tail.length F] 26):=⟨_,rfl⟩;obtain ⟨I,Z⟩:∃ I:World->Prop,I=(fun W:World=>W.cell? ⟨w.heap.size,0,none⟩=some (.slice (some ⟨b,E,none⟩) t.N.length D)/\W.cell? ⟨w.heap.size,1,none⟩=some (.slice ta t.tail.length F)/\W.cell? ⟨b,E+i*8+2,none⟩=some (.bool m)):=⟨_,rfl⟩;have A:I WA.drew:=(by rw [Z,O];exact ⟨by simp [go_sem],by simp [go_sem],a0⟩);have gA:w.grownBy WA.drew none:=(by rw [O];exact aA gWA ⟨rfl,rfl,rfl,Nat.le_refl _,fun _ _ _=>rfl⟩);have a4:=aB (HC.out _ gA);go_wp2;rw [<- O];refine aW I (fun _=>false) (by kernel_rfl) ?_
 show fK _ _ _ _ _ _ 10 (Array.replicate 10 false) _ _
 refine bG (i:=0) (.agg #[.slice (some ⟨b,E,none⟩) t.N.length D,.slice ta t.tail.length F]) rfl A (bI rfl (fun W H=>by rw [Z] at H;obtain ⟨J,h2,h3⟩:=H;go_simp)) ?_;refine bG (i:=1) (.int .i64 i) rfl A (bI rfl (fun W H=>by go_simp)) ?_;refine bG (i:=2) (.pointer (some ⟨w.heap.size,0,none⟩)) rfl A (bI rfl (fun W H=>by go_simp)) ?_;refine bG (i:=3) (.slice (some ⟨b,E,none⟩) t.N.length D) rfl A (bI rfl (fun W H=>by rw [Z] at H;obtain ⟨J,h2,h3⟩:=H;go_simp)) ?_;refine bG (i:=4) (.int .i64 i) rfl A (bI rfl (fun W H=>by go_simp)) ?_;refine bG (i:=5) (.pointer (some ⟨b,E+i*8,none⟩)) rfl A (bI rfl (fun W H=>by go_simp)) ?_;refine bG (i:=6) (.pointer (some ⟨b,E+i*8+2,none⟩)) rfl A (bI rfl (fun W H=>by go_simp)) ?_;refine bG (i:=7) (.bool m) rfl A (bI rfl (fun W H=>by rw [Z] at H;obtain ⟨J,h2,h3⟩:=H;go_simp)) ?_;generalize hG:Act.put _ _ _=A0;simp [Act.put] at hG;subst hG;refine aG (i:=8) (by kernel_rfl) (eW rfl rfl (by go_simp) a4.out ?_);rintro e w1 ⟨rfl,g1⟩;have a2:I w1:=(by rw [Z] at A ⊢;exact ⟨g1.cell A.1 (by simp),g1.cell A.2.1 (by simp),g1.cell A.2.2 (by simp)⟩);refine ⟨_,rfl,.inr a2,?_⟩;have hE:=HE.out;rw [show 201+1=202 by rfl,hE];have G:=aB (aA gA g1);clear HC a4 g1 hE z2 a0;refine aG (i:=9) (by kernel_rfl) (bM (w':=w1) (v:=.int .i64 ((t.N.length - R2.length:Nat):Int)) rfl rfl (by go_simp) ⟨.inr a2,?_⟩);refine bK (by kernel_rfl) ?_ _;subst Z;go_wp2;go_ret;exact ⟨rfl,G.out⟩
section
attribute [-go_sem] Builtin.append_
structure kU (t:Tre):Prop where
 len:t.N.length<=4000
 nd:∀ p∈t.N,fS gM oP p
 ok:∀ p∈t.N,zM p
 cn:∀ p∈t.N,-9223372036854775808<=p.C/\p.C<=9223372036854775807
 wt:wNs t.N<=2000000
theorem oC:∀ (A:List Nod) (p:Nod),p∈A->wN p<=wNs A
 | [],p,h=>by simp at h
 | q::A,p,h=>by
   simp only [wNs];rcases mem_cons.1 h with rfl | h
   .omega
   .have:=oC A p h;omega
theorem aDk (t) (f1:Int) (hD:kU t) (i:Nat) (hi:i<t.N.length) (hk:t.N[i].k<5) (nv tv) (w:World) (hv:eV w.heap.size w nv tv t) :
  Calls prog 42 #[.agg #[nv,tv],.int .i64 i,.int .i64 f1] w fun e w'=>∃ v',e=.returned v'/\PoR w.heap.size w' v' (fP t.N[i])/\w.grownBy w' none:=by
 obtain ⟨a9,c6⟩:=id hv;obtain ⟨na,c0,d6,_⟩:=id a9;obtain ⟨ta,c1,f3,_⟩:=id c6;obtain ⟨b,d8,f8,lv,kv,xv,uv,qv,f5,i1,J⟩:=a9.at i hi;have c3:=hD.nd _ (getElem_mem hi);have a7:=hD.ok _ (getElem_mem hi);have d5:=Nat.le_trans (oC _ _ (getElem_mem hi)) hD.wt;have i2:6*t.N[i].U.length<=2000000:=(by have:=d5;unfold wN at this;omega);have j1:t.N[i].X.length<=1048576:=a7.x.1;have j2:=a7.u;have S:∀ W:World,w.grownBy W none->RdB W.heap.size W xv t.N[i].X:=fun W g=>((J.rx.K g).wideC g.size);have gB:∀ W:World,w.grownBy W none->RdI W.heap.size W uv t.N[i].U:=fun W g=>((J.ru.K g).wideC g.size);have HX:Hid (∀ W:World,w.grownBy W none->_):=fun W (g:w.grownBy W none)=>lP xv t.N[i].X W (S W g) (by omega);have HU:Hid (∀ W:World,w.grownBy W none->_):=fun W (g:w.grownBy W none)=>tN uv t.N[i].U W (gB W g) (by omega);have z0:=J.k;have z1:=J.L;have z2:=J.mem;have z3:=J.key;have z4:=J.X;have z5:=J.U;have z6:=J.C;have z7:=J.tail;obtain ⟨la,G,f2,_,_⟩:=J.rl.sl;obtain ⟨qa,E,f4,_,_⟩:=J.rt.sl;obtain ⟨ka,A,d7,_,_⟩:=J.sk;obtain ⟨xa,F,d4,_,_⟩:=J.sx;obtain ⟨ua,D,d1,_,_⟩:=J.su;subst f2 f4 d7 d4 d1 f5 f3;cases d6;have Y:=c3.1.1;have hq:=aD1 t.N[i].U;clear a9 c6 hv J a7 c3 S gB;generalize t.N[i]=p at *;obtain ⟨wA,a8⟩:∃ wA,wA=w.alloc (Obj.cells #[.slice (some ⟨b,d8,none⟩) t.N.length c0,.slice ta t.tail.length c1] 26):=⟨_,rfl⟩;have S:w.grownBy wA none:=(by rw [a8];exact gWA);have Z:=S.cell z0 (by simp);have i0:=S.cell z1 (by simp);have i6:=S.cell z2 (by simp);have i5:=S.cell z3 (by simp);have i4:=S.cell z4 (by simp);have i8:=S.cell z5 (by simp);have i9:=S.cell z6 (by simp);have i7:=S.cell z7 (by simp);have sA:wA.heap.size=w.heap.size+1:=(by rw [a8];simp);clear z0 z1 z2 z3 z4 z5 z6 z7;have g3:∀ o1 o2:Obj,w.grownBy ((wA.alloc o1).alloc o2) none:=fun o1 o2=>aA S (aA gWA gWA);have G3:=aB g3;subst a8;clear S g3;have d3:p.k=0\/p.k=1\/p.k=2\/p.k=3\/p.k=4:=(by omega);rcases d3 with h | h | h | h | h
 .have HS:=aB (show fP p=aI [110,117,108,108] by unfold fP;rw [if_neg (by omega),if_neg (by omega),if_pos h]);have HT:Hid (∀ W:World,_):=fun W=>eC [110,117,108,108] (by intro z hz;simp at hz;omega) (by simp) W;rw [h] at Z hk Y
  go_enter func42,ntmps42
  go_wp2_with fail
  refine (HT.out _).mono ?_;rintro e w4 ⟨v4,rfl,H,M⟩;have O:=G3.out (Obj.cells #[.int .i64 0,.slice la p.L.length G,.bool p.mem,.slice ka p.key.length A,.slice xa p.X.length F,.slice ua p.U.length D,.int .i64 p.C,.slice qa p.tail.length E] 49) (Obj.cells #[.string { data:=#[110,117,108,108] },.string { data:=#[116,114,117,101] },.string { data:=#[102,97,108,115,101] }] 9);have HG:=aB (aA O M);have HO:=aB (H.base O.size);obtain ⟨a4,c4,I,_,_⟩:=H.sl;subst I;clear H M HX HU HT O;go_wp2;go_ret;exact ⟨_,rfl,by rw [HS.out];exact HO.out,HG.out⟩
 .have HS:=aB (show fP p=aI [116,114,117,101] by unfold fP;rw [if_neg (by omega),if_neg (by omega),if_neg (by omega),if_pos h]);have HT:Hid (∀ W:World,_):=fun W=>eC [116,114,117,101] (by intro z hz;simp at hz;omega) (by simp) W;rw [h] at Z hk Y
  go_enter func42,ntmps42
  go_wp2_with fail
  refine (HT.out _).mono ?_;rintro e w4 ⟨v4,rfl,H,M⟩;have O:=G3.out (Obj.cells #[.int .i64 1,.slice la p.L.length G,.bool p.mem,.slice ka p.key.length A,.slice xa p.X.length F,.slice ua p.U.length D,.int .i64 p.C,.slice qa p.tail.length E] 49) (Obj.cells #[.string { data:=#[110,117,108,108] },.string { data:=#[116,114,117,101] },.string { data:=#[102,97,108,115,101] }] 9);have HG:=aB (aA O M);have HO:=aB (H.base O.size);obtain ⟨a4,c4,I,_,_⟩:=H.sl;subst I;clear H M HX HU HT O;go_wp2;go_ret;exact ⟨_,rfl,by rw [HS.out];exact HO.out,HG.out⟩
 .have HS:=aB (show fP p=aI [102,97,108,115,101] by unfold fP;rw [if_neg (by omega),if_neg (by omega),if_neg (by omega),if_neg (by omega)]);have HT:Hid (∀ W:World,_):=fun W=>eC [102,97,108,115,101] (by intro z hz;simp at hz;omega) (by simp) W;rw [h] at Z hk Y
  go_enter func42,ntmps42
  go_wp2_with fail
  refine (HT.out _).mono ?_;rintro e w4 ⟨v4,rfl,H,M⟩;have O:=G3.out (Obj.cells #[.int .i64 2,.slice la p.L.length G,.bool p.mem,.slice ka p.key.length A,.slice xa p.X.length F,.slice ua p.U.length D,.int .i64 p.C,.slice qa p.tail.length E] 49) (Obj.cells #[.string { data:=#[110,117,108,108] },.string { data:=#[116,114,117,101] },.string { data:=#[102,97,108,115,101] }] 9);have HG:=aB (aA O M);have HO:=aB (H.base O.size);obtain ⟨a4,c4,I,_,_⟩:=H.sl;subst I;clear H M HX HU HT O;go_wp2;go_ret;exact ⟨_,rfl,by rw [HS.out];exact HO.out,HG.out⟩
 .have HS:=aB (show fP p=aI p.X by unfold fP;rw [if_pos h]);rw [h] at Z hk Y
  go_enter func42,ntmps42
  go_wp2_with fail
  refine (HX.out _ (G3.out _ _)).mono ?_;rintro e w4 ⟨v4,rfl,H,M⟩;have HG:=aB (aA (G3.out (Obj.cells #[.int .i64 3,.slice la p.L.length G,.bool p.mem,.slice ka p.key.length A,.slice xa p.X.length F,.slice ua p.U.length D,.int .i64 p.C,.slice qa p.tail.length E] 49) (Obj.cells #[.string { data:=#[110,117,108,108] },.string { data:=#[116,114,117,101] },.string { data:=#[102,97,108,115,101] }] 9)) M);have HO:=aB (H.base (G3.out (Obj.cells #[.int .i64 3,.slice la p.L.length G,.bool p.mem,.slice ka p.key.length A,.slice xa p.X.length F,.slice ua p.U.length D,.int .i64 p.C,.slice qa p.tail.length E] 49) (Obj.cells #[.string { data:=#[110,117,108,108] },.string { data:=#[116,114,117,101] },.string { data:=#[102,97,108,115,101] }] 9)).size);obtain ⟨a4,c4,I,_,_⟩:=H.sl;subst I;clear H M HX HU;go_wp2;go_ret;exact ⟨_,rfl,by rw [HS.out];exact HO.out,HG.out⟩
 .have HS:=aB (show fP p=aI (quR p.U).1 by unfold fP;rw [if_neg (by omega),if_pos h]);rw [h] at Z hk Y
  go_enter func42,ntmps42
  go_wp2_with fail
  refine (HU.out _ (G3.out _ _)).mono ?_;rintro e w4 ⟨v4,rfl,H,M⟩;have O:=aA (G3.out (Obj.cells #[.int .i64 4,.slice la p.L.length G,.bool p.mem,.slice ka p.key.length A,.slice xa p.X.length F,.slice ua p.U.length D,.int .i64 p.C,.slice qa p.tail.length E] 49) (Obj.cells #[.string { data:=#[110,117,108,108] },.string { data:=#[116,114,117,101] },.string { data:=#[102,97,108,115,101] }] 9)) M;have HG:=aB O;have HY:=aB (lP v4 _ w4 H.rd (by omega));obtain ⟨a4,c4,I,_,_⟩:=H.sl;subst I;clear H M HX HU O;generalize (quR p.U).1=qs at *
  go_wp2_with fail
  refine HY.out.mono ?_;rintro e w5 ⟨v5,rfl,o5,g5⟩;have HO:=aB (o5.base HG.out.size);obtain ⟨a5,c5,d9,_,_⟩:=o5.sl;subst d9;clear o5 HY;go_wp2;go_ret;exact ⟨_,rfl,by rw [HS.out];exact HO.out,aA HG.out g5⟩
theorem aDu (B:Nat) (w:World) (a b c d A E F D) (J:B<=w.heap.size) (I:PiR B w none a A) (M:PiR B w none b E) (G:PiR B w none c F) (H:PiR B w none d D) :
  DiR B (w.alloc (Obj.cells #[a,b,c,d] 31)) none (.slice (some ⟨w.heap.size,0,none⟩) 4 4) [A,E,F,D]:=by
 have g:=grownBy_alloc w (Obj.cells #[a,b,c,d] 31) none;refine ⟨_,4,rfl,Nat.le_refl _,by unfold maxLen;omega,fun _=>⟨w.heap.size,0,rfl,⟨J,by simp,by simp⟩,fun j N h=>?_⟩⟩
 match j,h with
 | 0,h=>simp at h;subst h;exact ⟨a,by simp [go_sem],I.K g⟩
 | 1,h=>simp at h;subst h;exact ⟨b,by simp [go_sem],M.K g⟩
 | 2,h=>simp at h;subst h;exact ⟨c,by simp [go_sem],G.K g⟩
 | 3,h=>simp at h;subst h;exact ⟨d,by simp [go_sem],H.K g⟩
 | j+4,h=>simp at h
theorem aHs (kd:Int) (x y E A B w) (J:PiR B w none x E) (Z:PiR B w none y A) (hn:mes E<=1000000) (hm:mes A<=1000000) :
  Calls prog 85 #[.int .i64 kd,x,y] w fun e w'=>∃ v',e=.returned v'/\PoR w.heap.size w' v' (E++A++[⟨kd,[],0⟩])/\w.grownBy w' none:=by
 have HX:=aB (qL x E B w J (by omega));have HY:Hid (∀ W:World,w.grownBy W none->_):=fun W (g:w.grownBy W none)=>qL y A B W (Z.K g) (by omega);have hl:=qP E;have c7:=qP A;obtain ⟨xa,xc,a0,_,_⟩:=J.sl;obtain ⟨ya,yc,a6,_,_⟩:=Z.sl;subst a0 a6;clear J Z
 go_enter func85,ntmps85
 go_wp2_with fail
 refine HX.out.mono ?_;rintro e w1 ⟨v1,rfl,M,H⟩;have hs:=H.size;have h:=aB M;have F:=aB (HY.out _ H);obtain ⟨a1,c1,N,_,_⟩:=M.sl;subst N;clear HX M HY
 go_wp2_with fail
 refine F.out.mono ?_;rintro e w2 ⟨v2,rfl,S,g2⟩;have c5:=g2.size;obtain ⟨v3,w3,b0,G,g3,h3⟩:=uV w.heap.size w2 _ v2 E A (h.out.K g2) ((S.pi).turn (Zo.on _ hs (fun k e=>.inl (h.out.lt k e).2))) (by omega) (by omega);have D:=bC (aA H g2) g3 (fun j e=>(h.out.lt j e).1);have b9:=D.size;obtain ⟨v4,w4,b4,o4,g4,⟨a4,c4,a7⟩,_⟩:=G.push kd 0 (.slice none 0 0) [] (by omega) (TxR.nil _ _ _) (by simp;omega);have a8:=aB (bC D g4 (fun j e=>(G.lt j e).1));have Y:=aB o4;obtain ⟨a2,c2,O,_,_⟩:=S.sl;obtain ⟨a3,c3,I,_,_⟩:=G.sl;generalize (E++A).length=LL at *;subst O I a7;clear h F S G o4 g3 g4 D h3;go_wp2;go_ret;exact ⟨_,rfl,Y.out,a8.out⟩
theorem aBF (t) (b5:Int) (hD:kU t) (i:Nat) (hi:i<t.N.length) (hk:t.N[i].k=5) (a2:t.N[i].C=0) (F:t.N[i].tail=[]) (nv tv) (w:World) (hv:eV w.heap.size w nv tv t) :
  Calls prog 42 #[.agg #[nv,tv],.int .i64 i,.int .i64 b5] w fun e w'=>∃ v',e=.returned v'/\PoR w.heap.size w' v' (aI [91,93])/\w.grownBy w' none:=by
 obtain ⟨E,Z⟩:=id hv;obtain ⟨na,M,a8,_⟩:=id E;obtain ⟨ta,O,F,_⟩:=id Z;obtain ⟨b,b0,c5,lv,kv,xv,uv,qv,c0,f5,h⟩:=E.at i hi;have a7:=Nat.le_trans (oC _ _ (getElem_mem hi)) hD.wt;have g1:=hD.cn _ (getElem_mem hi);have d6:wC t.N[i].tail<=2000000:=(by have:=a7;unfold wN at this;omega);have z0:=h.k;have z1:=h.L;have z2:=h.mem;have z3:=h.key;have z4:=h.X;have z5:=h.U;have z6:=h.C;have z7:=h.tail;have a5:=aB h.rt;obtain ⟨la,Y,b6,_,_⟩:=h.rl.sl;obtain ⟨qa,J,b9,_,_⟩:=h.rt.sl;obtain ⟨ka,G,a9,_,_⟩:=h.sk;obtain ⟨xa,S,a3,_,_⟩:=h.sx;obtain ⟨ua,H,a0,_,_⟩:=h.su;subst b6 b9 a9 a3 a0 c0 F;cases a8;clear E Z hv h;generalize t.N[i]=p at *;obtain ⟨I,D⟩:∃ I,I=w.alloc (Obj.cells #[.slice (some ⟨b,b0,none⟩) t.N.length M,.slice ta t.tail.length O] 26):=⟨_,rfl⟩;have A:w.grownBy I none:=(by rw [D];exact gWA);have b7:=A.cell z0 (by simp);have f2:=A.cell z1 (by simp);have f9:=A.cell z2 (by simp);have f8:=A.cell z3 (by simp);have f7:=A.cell z4 (by simp);have g2:=A.cell z5 (by simp);have b3:=A.cell z6 (by simp);have b1:=A.cell z7 (by simp);have sA:I.heap.size=w.heap.size+1:=(by rw [D];simp);clear z0 z1 z2 z3 z4 z5 z6 z7;have b2:p.tail.length=0:=(by rw [F];rfl);rw [hk] at b7;rw [a2] at b3;rw [b2] at b1;have gg:w.grownBy ((I.alloc (Obj.cells #[.int .i64 5,.slice la p.L.length Y,.bool p.mem,.slice ka p.key.length G,.slice xa p.X.length S,.slice ua p.U.length H,.int .i64 0,.slice qa 0 J] 49)).alloc (Obj.cells #[.string { data:=#[110,117,108,108] },.string { data:=#[116,114,117,101] },.string { data:=#[102,97,108,115,101] }] 9)) none:=aA A (aA gWA gWA);have GG:=aB gg;have HT:Hid (∀ W:World,_):=fun W=>eC [91,93] (by intro z hz;simp at hz;omega) (by simp) W;subst D;clear A gg a5
 go_enter func42,ntmps42
 go_wp2_with fail
 refine (HT.out _).mono ?_;rintro e w4 ⟨v4,rfl,o4,g4⟩;have HG:=aB (aA GG.out g4);have HO:=aB (o4.base GG.out.size);obtain ⟨a4,c4,b8,_,_⟩:=o4.sl;subst b8;clear o4 g4 HT GG;go_wp2;go_ret;exact ⟨_,rfl,HO.out,HG.out⟩
theorem aBW (t) (b5:Int) (hD:kU t) (i:Nat) (hi:i<t.N.length) (hk:t.N[i].k=6) (a2:t.N[i].C=0) (F:t.N[i].tail=[]) (nv tv) (w:World) (hv:eV w.heap.size w nv tv t) :
  Calls prog 42 #[.agg #[nv,tv],.int .i64 i,.int .i64 b5] w fun e w'=>∃ v',e=.returned v'/\PoR w.heap.size w' v' (aI [123,125])/\w.grownBy w' none:=by
 obtain ⟨E,Z⟩:=id hv;obtain ⟨na,M,a8,_⟩:=id E;obtain ⟨ta,O,F,_⟩:=id Z;obtain ⟨b,b0,c5,lv,kv,xv,uv,qv,c0,f5,h⟩:=E.at i hi;have a7:=Nat.le_trans (oC _ _ (getElem_mem hi)) hD.wt;have g1:=hD.cn _ (getElem_mem hi);have d6:wC t.N[i].tail<=2000000:=(by have:=a7;unfold wN at this;omega);have z0:=h.k;have z1:=h.L;have z2:=h.mem;have z3:=h.key;have z4:=h.X;have z5:=h.U;have z6:=h.C;have z7:=h.tail;have a5:=aB h.rt;obtain ⟨la,Y,b6,_,_⟩:=h.rl.sl;obtain ⟨qa,J,b9,_,_⟩:=h.rt.sl;obtain ⟨ka,G,a9,_,_⟩:=h.sk;obtain ⟨xa,S,a3,_,_⟩:=h.sx;obtain ⟨ua,H,a0,_,_⟩:=h.su;subst b6 b9 a9 a3 a0 c0 F;cases a8;clear E Z hv h;generalize t.N[i]=p at *;obtain ⟨I,D⟩:∃ I,I=w.alloc (Obj.cells #[.slice (some ⟨b,b0,none⟩) t.N.length M,.slice ta t.tail.length O] 26):=⟨_,rfl⟩;have A:w.grownBy I none:=(by rw [D];exact gWA);have b7:=A.cell z0 (by simp);have f2:=A.cell z1 (by simp);have f9:=A.cell z2 (by simp);have f8:=A.cell z3 (by simp);have f7:=A.cell z4 (by simp);have g2:=A.cell z5 (by simp);have b3:=A.cell z6 (by simp);have b1:=A.cell z7 (by simp);have sA:I.heap.size=w.heap.size+1:=(by rw [D];simp);clear z0 z1 z2 z3 z4 z5 z6 z7;have b2:p.tail.length=0:=(by rw [F];rfl);rw [hk] at b7;rw [a2] at b3;rw [b2] at b1;have gg:w.grownBy ((I.alloc (Obj.cells #[.int .i64 6,.slice la p.L.length Y,.bool p.mem,.slice ka p.key.length G,.slice xa p.X.length S,.slice ua p.U.length H,.int .i64 0,.slice qa 0 J] 49)).alloc (Obj.cells #[.string { data:=#[110,117,108,108] },.string { data:=#[116,114,117,101] },.string { data:=#[102,97,108,115,101] }] 9)) none:=aA A (aA gWA gWA);have GG:=aB gg;have HT:Hid (∀ W:World,_):=fun W=>eC [123,125] (by intro z hz;simp at hz;omega) (by simp) W;subst D;clear A gg a5
 go_enter func42,ntmps42
 go_wp2_with fail
 refine (HT.out _).mono ?_;rintro e w4 ⟨v4,rfl,o4,g4⟩;have HG:=aB (aA GG.out g4);have HO:=aB (o4.base GG.out.size);obtain ⟨a4,c4,b8,_,_⟩:=o4.sl;subst b8;clear o4 g4 HT GG;go_wp2;go_ret;exact ⟨_,rfl,HO.out,HG.out⟩
theorem aBR (t) (A:Int) (hD:kU t) (i:Nat) (hi:i<t.N.length) (hk:t.N[i].k=5) (f6:t.N[i].C=0) (a1:t.N[i].tail≠[]) (nv tv) (w:World) (hv:eV w.heap.size w nv tv t) :
  Calls prog 42 #[.agg #[nv,tv],.int .i64 i,.int .i64 A] w fun e w'=>∃ v',e=.returned v'/\PoR w.heap.size w' v' (eR [aI [91],iE A (cW t.N[i].tail),aM 4,aI [93]])/\w.grownBy w' none:=by
 obtain ⟨a0,d8⟩:=id hv;obtain ⟨na,c1,f9,_⟩:=id a0;obtain ⟨ta,c2,a1,_⟩:=id d8;obtain ⟨b,h2,i8,lv,kv,xv,uv,qv,i3,m3,h⟩:=a0.at i hi;have b5:=Nat.le_trans (oC _ _ (getElem_mem hi)) hD.wt;have n2:=hD.cn _ (getElem_mem hi);have I:wC t.N[i].tail<=2000000:=(by have:=b5;unfold wN at this;omega);have z0:=h.k;have z1:=h.L;have z2:=h.mem;have z3:=h.key;have z4:=h.X;have z5:=h.U;have z6:=h.C;have z7:=h.tail;have b3:=aB h.rt;obtain ⟨la,d7,h7,_,_⟩:=h.rl.sl;obtain ⟨qa,H,i2,_,_⟩:=h.rt.sl;obtain ⟨ka,b0,g0,_,_⟩:=h.sk;obtain ⟨xa,d4,f7,_,_⟩:=h.sx;obtain ⟨ua,b2,f4,_,_⟩:=h.su;subst h7 i2 g0 f7 f4 i3 a1;cases f9;clear a0 d8 hv h;generalize t.N[i]=p at *;obtain ⟨wA,Z⟩:∃ wA,wA=w.alloc (Obj.cells #[.slice (some ⟨b,h2,none⟩) t.N.length c1,.slice ta t.tail.length c2] 26):=⟨_,rfl⟩;have E:w.grownBy wA none:=(by rw [Z];exact gWA);have i1:=E.cell z0 (by simp);have l6:=E.cell z1 (by simp);have m9:=E.cell z2 (by simp);have m7:=E.cell z3 (by simp);have m6:=E.cell z4 (by simp);have n8:=E.cell z5 (by simp);have h5:=E.cell z6 (by simp);have n4:=E.cell z7 (by simp);have sA:wA.heap.size=w.heap.size+1:=(by rw [Z];simp);clear z0 z1 z2 z3 z4 z5 z6 z7;have n5:0<p.tail.length:=length_pos_iff.2 a1;have k7:(0:Int)<p.tail.length:=(by omega);rw [hk] at i1;rw [f6] at h5;obtain ⟨W3,d9⟩:∃ W3,W3=(wA.alloc (Obj.cells #[.int .i64 5,.slice la p.L.length d7,.bool p.mem,.slice ka p.key.length b0,.slice xa p.X.length d4,.slice ua p.U.length b2,.int .i64 0,.slice qa p.tail.length H] 49)).alloc (Obj.cells #[.string { data:=#[110,117,108,108] },.string { data:=#[116,114,117,101] },.string { data:=#[102,97,108,115,101] }] 9):=⟨_,rfl⟩;have gg:w.grownBy W3 none:=(by rw [d9];exact aA E (aA gWA gWA));have GG:=aB gg;have b6:Hid (∀ W:World,_):=fun W=>eC [91] (by intro z hz;simp at hz;omega) (by simp) W;have b1:Hid (∀ W:World,_):=fun W=>eC [93] (by intro z hz;simp at hz;omega) (by simp) W;have HL:Hid (∀ W:World,_):=fun W=>fH 4 W;have HA:=aB (rR (.slice none 0 0) (.slice qa p.tail.length H) [] p.tail W3.heap.size W3 (DoR.nil _ _) (Nat.le_refl _) ((b3.out.K gg).wide gg.size) (by omega) (by simp));have n1:=nF p.tail;have S:=aB I;subst d9 Z;clear E gg b3 I b5
 go_enter func42,ntmps42
 go_wp2_with fail
 refine HA.out.mono ?_;rintro e w4 ⟨v4,rfl,o4,J⟩;have g4:=aC J;simp only [nil_append] at o4;have HR:=aB (kE v4 _ _ w4 o4.di (by have:=g4.size;exact this) (by have:=S.out;omega));have G4:=aB (aA GG.out g4);obtain ⟨a4,c4,f0,_,_⟩:=o4.sl;generalize (cW p.tail).length=L4 at f0;subst f0;clear o4 J g4 HA
 go_wp2_with fail
 refine HR.out.mono ?_;rintro e w5 ⟨v5,rfl,o5,g5⟩;have n0:=lU (cW p.tail);have HN:=aB (vJ 7 A v5 _ _ w5 o5.pi (by have:=S.out;omega));have G5:=aB (aA G4.out g5);obtain ⟨a5,c5,d0,_,_⟩:=o5.sl;generalize (eR (cW p.tail)).length=L5 at d0;subst d0;clear o5 g5 HR
 go_wp2_with fail
 refine HN.out.mono ?_;rintro e w6 ⟨v6,rfl,o6,g6⟩;have G6:=aB (aA G5.out g6);have c3:=aB (o6.base (B':=w.heap.size) G5.out.size);obtain ⟨a6,c6,b7,_,_⟩:=o6.sl;generalize m0:(eR (cW p.tail)++[(⟨7,[],A⟩:Pc)]).length=L6 at b7;subst b7;clear o6 g6 HN
 go_wp2_with fail
 refine (b6.out _).mono ?_;rintro e w7 ⟨v7,rfl,o7,g7⟩;have G7:=aB (aA G6.out g7);have d6:=aB (o7.base (B':=w.heap.size) G6.out.size);have F:=aB (c3.out.K g7);obtain ⟨a7,c7,b9,_,_⟩:=o7.sl;simp only [aI,length_singleton] at b9;subst b9;clear o7 g7 b6 c3
 go_wp2_with fail
 refine (HL.out _).mono ?_;rintro e w8 ⟨v8,rfl,o8,g8⟩;have G8:=aB (aA G7.out g8);have c0:=aB (o8.base (B':=w.heap.size) G7.out.size);have D:=aB (F.out.K g8);have M:=aB (d6.out.K g8);obtain ⟨a8,c8,b4,_,_⟩:=o8.sl;simp only [aM,length_singleton] at b4;subst b4;clear o8 g8 HL F d6
 go_wp2_with fail
 refine (b1.out _).mono ?_;rintro e w9 ⟨v9,rfl,o9,g9⟩;have G9:=aB (aA G8.out g9);obtain ⟨a9,c9,a2,_,_⟩:=o9.sl;simp only [aI,length_singleton] at a2;have d3:=aDu w.heap.size w9 _ _ _ _ _ _ _ _ G9.out.size (M.out.K g9).pi (D.out.K g9).pi (c0.out.K g9).pi (o9.base (B':=w.heap.size) G8.out.size).pi
 have h3:bW [aI [91],eR (cW p.tail)++[(⟨7,[],A⟩:Pc)],aM 4,aI [93]]<=4194304:=by
  have:=S.out;simp only [bW,fM,aI,aM,mes,length_cons,length_nil];omega
 have Y:=grownBy_alloc w9 (Obj.cells #[.slice a7 1 c7,.slice a6 L6 c6,.slice a8 1 c8,v9] 31) none;have HF:=aB (kE _ _ w.heap.size _ d3 (by have:=(aA G9.out Y).size;exact this) h3);have i0:=aB (aA G9.out Y);subst a2;clear o9 g9 b1 D M c0 d3 Y
 go_wp2_with fail
 refine HF.out.mono ?_;rintro e p2 ⟨m2,rfl,O,d2⟩;have d1:=aB O;have h8:=aB (aA i0.out d2);obtain ⟨m1,o0,G,_,_⟩:=O.sl;generalize (eR [aI [91],eR (cW p.tail)++[(⟨7,[],A⟩:Pc)],aM 4,aI [93]]).length=L11 at G;subst G;clear O d2 HF;go_wp2;go_ret;exact ⟨_,rfl,d1.out,h8.out⟩
theorem aBN (t) (A:Int) (hD:kU t) (i:Nat) (hi:i<t.N.length) (hk:t.N[i].k=6) (f6:t.N[i].C=0) (a1:t.N[i].tail≠[]) (nv tv) (w:World) (hv:eV w.heap.size w nv tv t) :
  Calls prog 42 #[.agg #[nv,tv],.int .i64 i,.int .i64 A] w fun e w'=>∃ v',e=.returned v'/\PoR w.heap.size w' v' (eR [aI [123],iE A (cW t.N[i].tail),aM 4,aI [125]])/\w.grownBy w' none:=by
 obtain ⟨a0,d8⟩:=id hv;obtain ⟨na,c1,f9,_⟩:=id a0;obtain ⟨ta,c2,a1,_⟩:=id d8;obtain ⟨b,h2,i8,lv,kv,xv,uv,qv,i3,m3,h⟩:=a0.at i hi;have b5:=Nat.le_trans (oC _ _ (getElem_mem hi)) hD.wt;have n2:=hD.cn _ (getElem_mem hi);have I:wC t.N[i].tail<=2000000:=(by have:=b5;unfold wN at this;omega);have z0:=h.k;have z1:=h.L;have z2:=h.mem;have z3:=h.key;have z4:=h.X;have z5:=h.U;have z6:=h.C;have z7:=h.tail;have b3:=aB h.rt;obtain ⟨la,d7,h7,_,_⟩:=h.rl.sl;obtain ⟨qa,H,i2,_,_⟩:=h.rt.sl;obtain ⟨ka,b0,g0,_,_⟩:=h.sk;obtain ⟨xa,d4,f7,_,_⟩:=h.sx;obtain ⟨ua,b2,f4,_,_⟩:=h.su;subst h7 i2 g0 f7 f4 i3 a1;cases f9;clear a0 d8 hv h;generalize t.N[i]=p at *;obtain ⟨wA,Z⟩:∃ wA,wA=w.alloc (Obj.cells #[.slice (some ⟨b,h2,none⟩) t.N.length c1,.slice ta t.tail.length c2] 26):=⟨_,rfl⟩;have E:w.grownBy wA none:=(by rw [Z];exact gWA);have i1:=E.cell z0 (by simp);have l6:=E.cell z1 (by simp);have m9:=E.cell z2 (by simp);have m7:=E.cell z3 (by simp);have m6:=E.cell z4 (by simp);have n8:=E.cell z5 (by simp);have h5:=E.cell z6 (by simp);have n4:=E.cell z7 (by simp);have sA:wA.heap.size=w.heap.size+1:=(by rw [Z];simp);clear z0 z1 z2 z3 z4 z5 z6 z7;have n5:0<p.tail.length:=length_pos_iff.2 a1;have k7:(0:Int)<p.tail.length:=(by omega);rw [hk] at i1;rw [f6] at h5;obtain ⟨W3,d9⟩:∃ W3,W3=(wA.alloc (Obj.cells #[.int .i64 6,.slice la p.L.length d7,.bool p.mem,.slice ka p.key.length b0,.slice xa p.X.length d4,.slice ua p.U.length b2,.int .i64 0,.slice qa p.tail.length H] 49)).alloc (Obj.cells #[.string { data:=#[110,117,108,108] },.string { data:=#[116,114,117,101] },.string { data:=#[102,97,108,115,101] }] 9):=⟨_,rfl⟩;have gg:w.grownBy W3 none:=(by rw [d9];exact aA E (aA gWA gWA));have GG:=aB gg;have b6:Hid (∀ W:World,_):=fun W=>eC [123] (by intro z hz;simp at hz;omega) (by simp) W;have b1:Hid (∀ W:World,_):=fun W=>eC [125] (by intro z hz;simp at hz;omega) (by simp) W;have HL:Hid (∀ W:World,_):=fun W=>fH 4 W;have HA:=aB (rR (.slice none 0 0) (.slice qa p.tail.length H) [] p.tail W3.heap.size W3 (DoR.nil _ _) (Nat.le_refl _) ((b3.out.K gg).wide gg.size) (by omega) (by simp));have n1:=nF p.tail;have S:=aB I;subst d9 Z;clear E gg b3 I b5
 go_enter func42,ntmps42
 go_wp2_with fail
 refine HA.out.mono ?_;rintro e w4 ⟨v4,rfl,o4,J⟩;have g4:=aC J;simp only [nil_append] at o4;have HR:=aB (kE v4 _ _ w4 o4.di (by have:=g4.size;exact this) (by have:=S.out;omega));have G4:=aB (aA GG.out g4);obtain ⟨a4,c4,f0,_,_⟩:=o4.sl;generalize (cW p.tail).length=L4 at f0;subst f0;clear o4 J g4 HA
 go_wp2_with fail
 refine HR.out.mono ?_;rintro e w5 ⟨v5,rfl,o5,g5⟩;have n0:=lU (cW p.tail);have HN:=aB (vJ 7 A v5 _ _ w5 o5.pi (by have:=S.out;omega));have G5:=aB (aA G4.out g5);obtain ⟨a5,c5,d0,_,_⟩:=o5.sl;generalize (eR (cW p.tail)).length=L5 at d0;subst d0;clear o5 g5 HR
 go_wp2_with fail
 refine HN.out.mono ?_;rintro e w6 ⟨v6,rfl,o6,g6⟩;have G6:=aB (aA G5.out g6);have c3:=aB (o6.base (B':=w.heap.size) G5.out.size);obtain ⟨a6,c6,b7,_,_⟩:=o6.sl;generalize m0:(eR (cW p.tail)++[(⟨7,[],A⟩:Pc)]).length=L6 at b7;subst b7;clear o6 g6 HN
 go_wp2_with fail
 refine (b6.out _).mono ?_;rintro e w7 ⟨v7,rfl,o7,g7⟩;have G7:=aB (aA G6.out g7);have d6:=aB (o7.base (B':=w.heap.size) G6.out.size);have F:=aB (c3.out.K g7);obtain ⟨a7,c7,b9,_,_⟩:=o7.sl;simp only [aI,length_singleton] at b9;subst b9;clear o7 g7 b6 c3
 go_wp2_with fail
 refine (HL.out _).mono ?_;rintro e w8 ⟨v8,rfl,o8,g8⟩;have G8:=aB (aA G7.out g8);have c0:=aB (o8.base (B':=w.heap.size) G7.out.size);have D:=aB (F.out.K g8);have M:=aB (d6.out.K g8);obtain ⟨a8,c8,b4,_,_⟩:=o8.sl;simp only [aM,length_singleton] at b4;subst b4;clear o8 g8 HL F d6
 go_wp2_with fail
 refine (b1.out _).mono ?_;rintro e w9 ⟨v9,rfl,o9,g9⟩;have G9:=aB (aA G8.out g9);obtain ⟨a9,c9,a2,_,_⟩:=o9.sl;simp only [aI,length_singleton] at a2;have d3:=aDu w.heap.size w9 _ _ _ _ _ _ _ _ G9.out.size (M.out.K g9).pi (D.out.K g9).pi (c0.out.K g9).pi (o9.base (B':=w.heap.size) G8.out.size).pi
 have h3:bW [aI [123],eR (cW p.tail)++[(⟨7,[],A⟩:Pc)],aM 4,aI [125]]<=4194304:=by
  have:=S.out;simp only [bW,fM,aI,aM,mes,length_cons,length_nil];omega
 have Y:=grownBy_alloc w9 (Obj.cells #[.slice a7 1 c7,.slice a6 L6 c6,.slice a8 1 c8,v9] 31) none;have HF:=aB (kE _ _ w.heap.size _ d3 (by have:=(aA G9.out Y).size;exact this) h3);have i0:=aB (aA G9.out Y);subst a2;clear o9 g9 b1 D M c0 d3 Y
 go_wp2_with fail
 refine HF.out.mono ?_;rintro e p2 ⟨m2,rfl,O,d2⟩;have d1:=aB O;have h8:=aB (aA i0.out d2);obtain ⟨m1,o0,G,_,_⟩:=O.sl;generalize (eR [aI [123],eR (cW p.tail)++[(⟨7,[],A⟩:Pc)],aM 4,aI [125]]).length=L11 at G;subst G;clear O d2 HF;go_wp2;go_ret;exact ⟨_,rfl,d1.out,h8.out⟩
end
theorem aAq (t:Tre) (d m a) (D:List Nod) (A:aE bD d m (t.N.drop a,())=some (D,())) (h:a<t.N.length):t.N[a].mem=m:=by
 cases d with
 | zero=>simp [aE] at A
 | succ d=>
   rw [drop_eq_getElem_cons h] at A
   by_cases h:t.N[a].mem≠m
   .simp [aE,h] at A
   .simpa using h
theorem aFa {α:Type} (l P S:List α) (h:l=P++S):S=l.drop (l.length - S.length)/\S.length<=l.length:=by
 subst h;refine ⟨?_,by simp⟩;rw [show (P++S).length - S.length=P.length by simp];simp
theorem aAH (t:Tre) (A d m i c) (D:List Nod) (Y:aN (aE bD d m) c (t.N.drop i,())=some (D,())) (hn:∀ n∈t.N,n.k<5->n.C=0) :
  ∀ j,j<=c->∃ a,a<=t.N.length/\bE (aH A d) j (t.N.drop i)=t.N.drop a/\a=t.N.length - (bE (aH A d) j (t.N.drop i)).length/\bW (itK (aH A d) j (t.N.drop i))<=wNs t.N/\
   (j<c->a<t.N.length/\aE bD d m (t.N.drop a,())=some (bE (aH A d) (j+1) (t.N.drop i),())):=by
 intro j I;have E:∀ n∈t.N.drop i,n.k<5->n.C=0:=fun n h=>hn n (mem_of_mem_drop h);have H:=pK (ind:=A) (fun R D h M=>sB A d m R D h M) c _ D Y E;obtain ⟨P,S⟩:=(iO (cB bD d m).1 (cB bD d m).2 j).2 _ _ (H j I)
 have F:t.N=(t.N.take i++P)++bE (aH A d) j (t.N.drop i):=by
  rw [append_assoc,<- S,take_append_drop]
 obtain ⟨J,h2⟩:=aFa _ _ _ F;refine ⟨t.N.length - (bE (aH A d) j (t.N.drop i)).length,by omega,J,rfl,?_,fun Z=>?_⟩
 .obtain ⟨P',O,hm⟩:=wE (ind:=A) (fun R D h M=>tF A d m R D h M) j _ _ (H j I) E
  have h3:wNs t.N=wNs (t.N.take i)+(wNs P'+wNs (bE (aH A d) j (t.N.drop i))):=by
   rw [<- vT,<- O,<- vT,take_append_drop]
  omega
 .have G:=H (j+1) (by omega);rw [oB,H j I,Option.bind_some] at G;refine ⟨?_,by rw [<- J];exact G⟩;rcases Nat.lt_or_ge (t.N.length - (bE (aH A d) j (t.N.drop i)).length) t.N.length with h | h
  .exact h
  .exfalso;rw [J,drop_of_length_le h] at G;cases d<;>simp [aE] at G
theorem sQ {B w F v N} (h:RdN B w v N) (g:Below B w F):RdN B F v N:=by
 obtain ⟨a,A,hv,h1,h2,hh⟩:=h;refine ⟨a,A,hv,h1,h2,fun M=>?_⟩;obtain ⟨b,D,I,E,G⟩:=hh M;refine ⟨b,D,I,E,fun j p Y=>?_⟩;obtain ⟨lv,O,xv,Z,tv,t⟩:=G j p Y;have f:∀ o v,w.cell? ⟨b,o,none⟩=some v->F.cell? ⟨b,o,none⟩=some v:=fun o v h=>by rw [g.cell (by simpa using E)];exact h
 have J:∀ {q:IntKind} {v:Value} {H:List Int},Rd q B w v H->Rd q B F v H:=fun {q v H} h=>by
  obtain ⟨a,A,e,S⟩:=h;refine ⟨a,A,e,fun M=>?_⟩;obtain ⟨b,D,I,E,G⟩:=S M;exact ⟨b,D,I,E,fun j hj=>by rw [g.cell (by simpa using E)];exact G j hj⟩
 exact ⟨lv,O,xv,Z,tv,f _ _ t.k,f _ _ t.L,f _ _ t.mem,f _ _ t.key,f _ _ t.X,f _ _ t.U,f _ _ t.C,f _ _ t.tail,dY t.rl g,J t.rk,t.sk,J t.rx,t.sx,J t.ru,t.su,dY t.rt g⟩
theorem xX {h w A D E} {t:Tre} (G:RdN h w D t.N) (H:RdC h w E t.tail) (F:h<=w.heap.size) (g:Below w.heap.size w A):eV A.heap.size A D E t:=
 ⟨(sQ (G.wide F) g).wide g.size,(dY (H.wide F) g).wide g.size⟩
end Go.Proofs.YtckcaefnokeodaaGreatDoor
