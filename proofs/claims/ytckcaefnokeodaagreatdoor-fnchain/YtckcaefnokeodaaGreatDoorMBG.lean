import Derived.Test.YtckcaefnokeodaaGreatDoorMBF
set_option maxHeartbeats 16000000
set_option maxRecDepth 100000
namespace Go.Proofs.YtckcaefnokeodaaGreatDoor
open Go.Proofs.Tryz Go.RowKit List World
section
attribute [-go_sem] Builtin.append_
theorem aMb (t) (hD:kU t) (D d4 bh O:Int) (s:List Int) (i:Nat) (hi:i<t.N.length) (h5:¬ t.N[i].k<5) (f6:0<t.N[i].C) (nv tv ov F B w) (ho:Bw B w ov F) (hB:B<=w.heap.size) (hn:RdN B w nv t.N) (ht:RdC B w tv t.tail) (b0:∀ W:World,eV W.heap.size W nv tv t->Calls prog 47 #[.agg #[nv,tv],.int .i64 i] W fun e M=>iU W (some s) e M) (hl:F.length+s.length<=1000000000) (b7:Cu F) (c7:(gN [] F).length<=200000) (b6:Vt s) (m3:s.length<=200000) (m5:0<=bh) (n4:bh<=1) (l4:fJ F+aF s+bh<=D) :
  Calls prog 19 #[ov,.agg #[nv,tv],.int .i64 i,.agg #[.int .i64 D,.int .i64 d4,.int .i64 bh,.int .i64 O]] w fun e M=>∃ v',e=.returned v'/\Bw B M v' (F++s)/\dJ w M ov v':=by
 have a8:Hid (∀ W:World,w.grownBy W none->Calls prog 47 #[.agg #[nv,tv],.int .i64 i] W fun e M=>iU W (some s) e M):=fun W g=>b0 W ⟨((hn.K g).wide (Nat.le_trans hB g.size)),((ht.K g).wide (Nat.le_trans hB g.size))⟩;have HO:=aB ho;have g8:=aB ho.sl;obtain ⟨ra,rc,g7,_,_⟩:=ho.sl;obtain ⟨na,d0,g3,_⟩:=id hn;obtain ⟨ta,d1,i3,_⟩:=id ht;obtain ⟨b,h7,j5,lv,kv,xv,uv,qv,i9,n8,J⟩:=hn.at i hi;have f5:=hD.len;have z0:=J.k;have z1:=J.L;have z2:=J.mem;have z3:=J.key;have z4:=J.X;have z5:=J.U;have z6:=J.C;have z7:=J.tail;obtain ⟨la,d6,i0,_,_⟩:=J.rl.sl;obtain ⟨qa,b1,i8,_,_⟩:=J.rt.sl;obtain ⟨ka,b9,g6,_,_⟩:=J.sk;obtain ⟨xa,d5,f9,_,_⟩:=J.sx;obtain ⟨ua,c0,f3,_,_⟩:=J.su;subst i0 i8 g6 f9 f3 i9 i3 g7;cases g3;clear hn ht J hD b0 ho;generalize t.N[i]=p at *;obtain ⟨wA,S⟩:∃ wA,wA=(w.alloc (Obj.cells #[.slice (some ⟨b,h7,none⟩) t.N.length d0,.slice ta t.tail.length d1] 26)).alloc (Obj.cells #[.int .i64 D,.int .i64 d4,.int .i64 bh,.int .i64 O] 52):=⟨_,rfl⟩;have gA:w.grownBy wA none:=(by rw [S];exact aA gWA gWA);have o7:=gA.cell z0 (by simp);have m2:=gA.cell z1 (by simp);have n2:=gA.cell z2 (by simp);have n1:=gA.cell z3 (by simp);have m9:=gA.cell z4 (by simp);have o0:=gA.cell z5 (by simp);have o2:=gA.cell z6 (by simp);have n5:=gA.cell z7 (by simp);have sA:wA.heap.size=w.heap.size+2:=(by rw [S];simp);obtain ⟨W3,E⟩:∃ W3,W3=wA.alloc (Obj.cells #[.int .i64 p.k,.slice la p.L.length d6,.bool p.mem,.slice ka p.key.length b9,.slice xa p.X.length d5,.slice ua p.U.length c0,.int .i64 p.C,.slice qa p.tail.length b1] 49):=⟨_,rfl⟩;have gg:w.grownBy W3 none:=(by rw [E];exact aA gA gWA);have GG:=aB gg;have y0:W3.cell? ⟨w.heap.size+2,0,none⟩=some (.int .i64 p.k):=(by rw [E,<- sA];simp [go_sem]);have y6:W3.cell? ⟨w.heap.size+2,6,none⟩=some (.int .i64 p.C):=(by rw [E,<- sA];simp [go_sem]);have y7:W3.cell? ⟨w.heap.size+2,7,none⟩=some (.slice qa p.tail.length b1):=(by rw [E,<- sA];simp [go_sem]);have h0:W3.cell? ⟨w.heap.size+1,0,none⟩=some (.int .i64 D):=(by rw [E,S];simp [go_sem]);have h2:W3.cell? ⟨w.heap.size+1,2,none⟩=some (.int .i64 bh):=(by rw [E,S];simp [go_sem]);have Y:=aB (show _/\_/\_/\_/\_ from ⟨y0,y6,y7,h0,h2⟩);have HX:=aB (a8.out W3 gg);have h4:=aB E;rw [E] at HX;clear z0 z1 z2 z3 z4 z5 z6 z7 E gg gA y0 y6 y7 h0 h2 a8;subst S;have m6:decide (p.k<5)=false:=(by simpa using h5);have m7:(p.C==0)=false:=(by simp;omega);clear f6 h5
 go_enter func19,ntmps19
 go_wp2_with fail
 refine HX.out.mono ?_;rintro e w4 ⟨v4,rfl,o4,g4⟩;have E:=h4.out;rw [<- E] at o4 g4;clear E;have n0:=g4.cell Y.out.1 (by simp);have n6:=g4.cell Y.out.2.1 (by simp);have n7:=g4.cell Y.out.2.2.1 (by simp);have i2:=g4.cell Y.out.2.2.2.1 (by simp);have i4:=g4.cell Y.out.2.2.2.2 (by simp);have c6:=aA GG.out g4;have gd:w4.grownBy w4.drew none:=⟨rfl,rfl,rfl,Nat.le_refl _,fun _ _ _=>rfl⟩;have b3:=aA c6 gd;have b4:=aB b3;have d7:=aB (o4.K gd);have g9:=aJS b7;have f4:=aFI b6;have a9:=aB (xI _ F w4.drew (HO.out.K b3).rd g8.out (aBm b7) (by omega) (by omega));have c3:Hid (∀ U:World,w4.drew.grownBy U none->Calls prog 49 #[v4] U fun e M=>e=.returned (.int .i64 (aF s))/\U.grownBy M none):=fun U g=>kX v4 s U ((d7.out.K g).rd) (aBm b6) (by omega);obtain ⟨a4,c4,i7,_,_⟩:=o4.sl;generalize o8:s.length=SL at *;generalize fJ F=CO at *;generalize aF s=WS at *;subst i7;have j4:CO<=200000:=(by omega);have l5:WS<=200000:=(by omega);obtain ⟨k2,_⟩:=g9;obtain ⟨j8,_⟩:=f4;clear o4 g4 HX Y c6 gd b3 b7 b6 c7;obtain ⟨I,H⟩:∃ I:World->Prop,I=(fun U:World=>U.cell? ⟨w.heap.size+1,0,none⟩=some (.int .i64 D)/\U.cell? ⟨w.heap.size+1,2,none⟩=some (.int .i64 bh)):=⟨_,rfl⟩;have A:I w4.drew:=(by rw [H];exact ⟨i2,i4⟩);go_wp2;refine aW I (fun _=>false) (by kernel_rfl) ?_
 show fK _ _ _ _ _ _ 17 (Array.replicate 17 false) _ _
 refine bG (i:=0) (.bool false) rfl A (bI rfl (fun U h=>by rw [H] at h;obtain ⟨c1,c2⟩:=h;go_simp)) ?_;refine bG (i:=1) (.bool false) rfl A (bI rfl (fun U h=>by rw [H] at h;obtain ⟨c1,c2⟩:=h;go_simp)) ?_;refine bG (i:=2) (.bool true) rfl A (tH (by go_simp) (fun U h=>by rw [H] at h;obtain ⟨c1,c2⟩:=h;go_simp)) ?_;refine bG (i:=3) (.bool true) rfl A (tH (by go_simp) (fun U h=>by rw [H] at h;obtain ⟨c1,c2⟩:=h;go_simp)) ?_;refine bG (i:=4) (.slice ra F.length rc) rfl A (tH (by go_simp) (fun U h=>by rw [H] at h;obtain ⟨c1,c2⟩:=h;go_simp)) ?_;refine bG (i:=6) (.slice a4 SL c4) rfl A (tH (by go_simp) (fun U h=>by rw [H] at h;obtain ⟨c1,c2⟩:=h;go_simp)) ?_;refine bG (i:=9) (.pointer (some ⟨w.heap.size+1,2,none⟩)) rfl A (tH (by go_simp) (fun U h=>by rw [H] at h;obtain ⟨c1,c2⟩:=h;go_simp)) ?_;refine bG (i:=10) (.int .i64 bh) rfl A (tH (by go_simp) (fun U h=>by rw [H] at h;obtain ⟨c1,c2⟩:=h;go_simp)) ?_;refine bG (i:=12) (.pointer (some ⟨w.heap.size+1,0,none⟩)) rfl A (tH (by go_simp) (fun U h=>by rw [H] at h;obtain ⟨c1,c2⟩:=h;go_simp)) ?_;refine bG (i:=13) (.int .i64 D) rfl A (tH (by go_simp) (fun U h=>by rw [H] at h;obtain ⟨c1,c2⟩:=h;go_simp)) ?_;generalize hG:Act.put _ _ _=A11;refine aG (i:=5) (by kernel_rfl) ?_;simp [Act.put] at hG;subst hG;refine pZ rfl (by go_simp) (by go_simp) a9.out ?_;rintro e q1 ⟨rfl,g1⟩;have Z:I q1:=(by rw [H] at A ⊢;exact ⟨g1.cell A.1 (by simp),g1.cell A.2 (by simp)⟩);refine ⟨_,rfl,.inr Z,?_⟩;refine aG (i:=7) (by kernel_rfl) (pZ rfl (by go_simp) (by go_simp) (c3.out q1 g1) ?_);rintro e q2 ⟨rfl,g2⟩;have G:I q2:=(by rw [H] at Z ⊢;exact ⟨g2.cell Z.1 (by simp),g2.cell Z.2 (by simp)⟩);refine ⟨_,rfl,.inr G,?_⟩;refine aG (i:=8) (by kernel_rfl) (kF (w':=q2) (v:=.int .i64 (CO+WS)) rfl (by go_simp) (by go_simp;rw [IntKind.wrap_i64];omega) ⟨.inr G,?_⟩);refine aG (i:=11) (by kernel_rfl) (kF (w':=q2) (v:=.int .i64 (CO+WS+bh)) rfl (by go_simp) (by go_simp;rw [IntKind.wrap_i64];omega) ⟨.inr G,?_⟩);refine aG (i:=14) (by kernel_rfl) (kF (w':=q2) (v:=.bool true) rfl (by go_simp) (by go_simp) ⟨.inr G,?_⟩);refine aG (i:=15) (by kernel_rfl) (kF (w':=q2) (v:=.bool true) rfl (by go_simp) (by go_simp) ⟨.inr G,?_⟩);refine aG (i:=16) (by kernel_rfl) (bM (w':=q2) (v:=.bool true) rfl rfl (by go_simp) ⟨.inr G,?_⟩);refine bK (by kernel_rfl) ?_ _;have a6:=aB (aA g1 g2);clear A Z G g1 g2 a9 c3;subst H;obtain ⟨v5,w5,l3,o5,g5⟩:=kV B q2 _ (.slice a4 SL c4) F s (HO.out.K (aA b4.out a6.out)) (d7.out.K a6.out).rd (Nat.le_trans hB (aA b4.out a6.out).size) (by omega);have h6:=aB ((dJ.ofg (aA b4.out a6.out) _).trans g5);have f8:=aB o5;obtain ⟨a5,c5,d2,_,_⟩:=o5.sl;generalize (F++s).length=L5 at d2;subst d2;clear o5 g5;go_wp2;go_ret;exact ⟨_,rfl,f8.out,h6.out⟩
end
theorem aF6 {h} {d:Nat} {n:Nod} {R:List Nod} (E:¬ n.k<5) (A:n.C=0) (F:n.tail≠[]):aD (bJ h (d+1) (n::R)) []=none:=by
 simp only [bJ,if_neg E,qV,if_pos A,if_neg F];rw [rO];have D:aD (bB 4) []=none:=(by simp [aD,bB]);simp only [eO,D,Option.bind_none];cases aD (bS [jW n.k]) [] with
 | none=>rfl
 | some a=>
   cases aD (mP h (jI n.tail)) [] with
   | none=>rfl
   | some a=>rfl
theorem aH0 (t A) (D:Int) (J:0<=D) (b2:D<=16) (hD:kU t) (hx:∀ p∈t.N,NdX p):∀ (d:Nat),d<=201->aMx t A D d
 | 0,_=>fun j R2 m nv tv ov F B S E w hj hw=>by simp [aE] at hw
 | d+1,hd=>fun j R2 m nv tv ov F B S E w hj hw ho hB hn ht a2 Y a8 a9 a6 hl hM O=>by
   have Z:t.N.drop j=t.N[j]::t.N.drop (j+1):=drop_eq_getElem_cons hj;have b9:=hD.nd _ (getElem_mem hj);have G:=fun (W:World) (hW:eV W.heap.size W nv tv t)=>aGd t D J b2 hD hx (d+1) hd j R2 m nv tv W hj hw hW hM;obtain ⟨g1,hO,_,_,_,f9⟩:=aCj J b2 hD hx hd hw hM
   by_cases hs:t.N[j].k<5\/(t.N[j].C=0/\t.N[j].tail=[])
   .obtain ⟨s,I,hX⟩:=aKJ (width:=A) (ind:=D) (level:=E) (b:=S) (d:=d) (R:=t.N.drop (j+1)) (out:=F) hs;rw [<- Z] at I hX;rw [hX] at O ⊢;rw [I] at G;exact aLy t hD A D S E s j hj hs nv tv ov F B w ho hB hn ht G O
   .have h5:¬ t.N[j].k<5:=fun h=>hs (.inl h);have h0:¬ (t.N[j].C=0/\t.N[j].tail=[]):=fun h=>hs (.inr h);have f4:=b9.2.2.2.2.2.2.2.2.2.2;have g0:=b9.1.2;have d4:0<=t.N[j].C:=(by omega);have b0:=hw;rw [Z] at b0;obtain ⟨_,_,a0⟩:=pI b0;have d6:∀ p∈t.N.drop (j+1),p.k<5->p.C=0:=fun p hp h=>((hD.nd p (mem_of_mem_drop hp)).2.2.2.2.2.2.2.2.2.1 h).1;have d7:∀ p∈t.N.drop (j+1),NdX p:=fun p hp=>hx p (mem_of_mem_drop hp);have b8:D*((d+1:Nat):Int)=D*(d:Int)+D:=(by rw [Int.natCast_succ,Int.mul_add,Int.mul_one]);rw [b8] at hl;have f7:0<=D*(d:Int):=Int.mul_nonneg J (by omega);have b7:E+D<=4000:=(by omega);have c1:(E+D)+D*(d:Int)<=4000:=(by omega);have IH:=aH0 t A D J b2 hD hx d (by omega)
    have d8:(∀ s,aD (bJ D (d+1) (t.N.drop j)) []=some s->¬ fJ F+aF s+S<=A)->F++LX A (bJ D (d+1) (t.N.drop j)) E F S=BRK A D d t.N[j] (t.N.drop (j+1)) E F:=fun I=>by
     rw [Z] at I ⊢;exact aHN J a6 a2 d4 b0 d6 d7 (hx _ (getElem_mem hj)) h5 h0 I
    have a5:(t.N[j].C=0/\t.N[j].tail≠[])\/0<t.N[j].C:=by
     by_cases hc:t.N[j].C=0
     .exact .inl ⟨hc,fun e=>h0 ⟨hc,e⟩⟩
     .exact .inr (by omega)
    have M:∀ s,aD (bJ D (d+1) (t.N.drop j)) []=some s->0<t.N[j].C/\Vt s/\s.length<=200000:=fun s I=>by
     have hc:t.N[j].C≠0:=fun hc=>by
      have f0:t.N[j].tail≠[]:=fun e=>h0 ⟨hc,e⟩;rw [Z,aF6 h5 hc f0] at I;cases I
     have b3:=kB _ _ _ I;simp only [length_nil] at b3;exact ⟨by omega,(tA _ _ hO I).1,by omega⟩
    by_cases H:∃ s,aD (bJ D (d+1) (t.N.drop j)) []=some s/\fJ F+aF s+S<=A
    .obtain ⟨s,I,H⟩:=H;obtain ⟨hc,d5,b3⟩:=M s I;rw [I] at G
     have hX:LX A (bJ D (d+1) (t.N.drop j)) E F S=s:=by
      rw [Z] at I ⊢;exact aKs h5 h0 I H
     rw [hX] at O ⊢;exact aMb t hD A D S E s j hj h5 hc nv tv ov F B w ho hB hn ht G O a2 Y d5 b3 a8 a9 H
    .have b6:∀ s,aD (bJ D (d+1) (t.N.drop j)) []=some s->¬ fJ F+aF s+S<=A:=fun s h h'=>H ⟨s,h,h'⟩;have hE:=d8 b6;have d9:=congrArg List.length hE;rw [length_append] at d9;rw [hE];have hr:=fun (s:List Int) (h:aD (bJ D (d+1) (t.N.drop j)) []=some s)=>(⟨(M s h).1,(M s h).2.1,(M s h).2.2,b6 s h⟩:0<t.N[j].C/\Vt s/\s.length<=200000/\¬ fJ F+aF s+S<=A);rcases (show t.N[j].k=5\/t.N[j].k=6 by omega) with hk | hk
     .rw [hk] at a0;exact aJr 5 false 91 93 (.inl ⟨rfl,rfl,rfl,rfl⟩) t A D J hD hx d (by omega) IH j hj hk R2 (by simpa using a0) hM S E a6 b7 c1 nv tv ov F B w ho hB hn ht a5 _ G a2 Y a8 a9 hr (by omega)
     .rw [hk] at a0;exact aJr 6 true 123 125 (.inr ⟨rfl,rfl,rfl,rfl⟩) t A D J hD hx d (by omega) IH j hj hk R2 (by simpa using a0) hM S E a6 b7 c1 nv tv ov F B w ho hB hn ht a5 _ G a2 Y a8 a9 hr (by omega)
attribute [-go_sem] Builtin.append_
theorem aAM:∀ (A:List Cm),gN [] (aS A 0)=[]
 | []=>rfl
 | c::A=>by
   have h:=xQ 0 A (nO c);rw [show aS (c::A) 0=nO c++aO 0++aS A 0 by simp [aS]];rw [h];rfl
theorem aER {ind} {t:Tre} (h:t.N≠[]):mes (aH ind 201 t.N).1<=mes (eM ind t):=by
 unfold eM;cases A:t.N with
 | nil=>exact absurd A h
 | cons n R=>
   have:=rS (bT n.L++((aH ind 201 (n::R)).1::aM 4::bT t.tail));simp only [cS,bW,aM,mes] at this ⊢;omega
theorem aAw (t) (A D:Int) (vv:Bool) (f6:vv=true->VF t) (nv tv) (w:World) (hv:eV w.heap.size w nv tv t) (I:∀ W:World,eV W.heap.size W nv tv t->Calls prog 15 #[.agg #[nv,tv]] W fun e h9=>e=.returned (.bool vv)/\W.grownBy h9 none) :
  Calls prog 5 #[.agg #[nv,tv],.int .i64 A,.int .i64 D] w fun e w'=>∃ v',e=.returned (.tuple #[v',.int .i64 (ftR vv A D t).2])/\RdB w'.heap.size w' v' (ftR vv A D t).1/\w.grownBy w' none:=by
 have l4:∀ (x:Bool) (w:World),(Op.unary .not (.bool x)).run prog w=.ok (.bool (!x)) w:=fun _ _=>rfl;obtain ⟨a3,c9⟩:=id hv;have d0:Hid (∀ W:World,w.grownBy W none->eV W.heap.size W nv tv t):=fun W g=>⟨(a3.K g).wide g.size,(c9.K g).wide g.size⟩;have HV:Hid (∀ W:World,w.grownBy W none->_):=fun W (g:w.grownBy W none)=>I W (d0.out W g);have H1:=aB f6;have G:Hid (∀ W:World,RdB W.heap.size W (.slice none 0 0) []):=fun W=>(Bw.nil 0 W).rd;have i7:=aB a3;obtain ⟨na,J,a1,_⟩:=id a3;obtain ⟨ta,Z,k1,_⟩:=id c9;subst a1 k1;clear a3 c9 hv I f6;have gA:=grownBy_alloc w (Obj.cells #[.slice na t.N.length J,.slice ta t.tail.length Z] 26) none;have GA:=aB gA;clear gA
 go_enter func5,ntmps5
 go_wp2_with fail
 refine (HV.out _ GA.out).mono ?_;rintro e w1 ⟨rfl,g1⟩;have G1:=aB (aA GA.out g1);have q0:=g1.cell (a:=⟨w.heap.size,0,none⟩) (v:=.slice na t.N.length J) (by simp [go_sem]) (by simp);have q1:=g1.cell (a:=⟨w.heap.size,1,none⟩) (v:=.slice ta t.tail.length Z) (by simp [go_sem]) (by simp);clear g1 HV
 by_cases E:vv=true/\(0<=A/\A<=65535)/\0<=D/\D<=16
 .obtain ⟨rfl,⟨f3,f9⟩,c0,S⟩:=E;have b1:decide (A<0)=false:=(by simp;omega);have b2:decide (65535<A)=false:=(by simp;omega);have b3:decide (D<0)=false:=(by simp;omega);have b4:decide (16<D)=false:=(by simp;omega);have hF:=H1.out rfl;have HF:=aB hF;have f1:=aB (aHn t D hF.d hF.w hF.wk _ _ w1 (d0.out w1 G1.out))
  have k0:Hid (mes (eM D t)<=4194304):=by
   have h:=aKi t D hF.d hF.wk;have:=hF.w;unfold Hid;omega
  clear H1 hF
  go_wp2_with fail
  refine f1.out.mono ?_;rintro e H ⟨v2,rfl,o2,g2⟩;have g0:=aB (aE7 v2 _ _ H o2.pi k0.out);have G2:=aB (aA G1.out g2);replace q0:=g2.cell q0 (by simp);replace q1:=g2.cell q1 (by simp);have HR:=aB (show ftR true A D t=if eK (eM D t)=true then ([],4) else (uI A D t,0) by unfold ftR;rw [if_pos ⟨rfl,⟨f3,f9⟩,c0,S⟩]);obtain ⟨a2,c2,f8,_,_⟩:=o2.sl;generalize i0:(eM D t).length=L2 at f8;subst f8;clear o2 g2 f1 i0
  go_wp2_with fail
  refine g0.out.mono ?_;rintro e w3 ⟨rfl,rfl⟩;clear g0;cases O:eK (eM D t) with
  | true=>
    have F:=aB (show ftR true A D t=([],4) by rw [HR.out,O];rfl);clear O HR;go_wp2;go_ret2;exact ⟨.slice none 0 0,by rw [F.out];rfl,by rw [F.out];exact G.out _,G2.out⟩
  | false=>
    have F:=aB (show ftR true A D t=(uI A D t,0) by rw [HR.out,O];rfl);obtain ⟨_,_,d8⟩:=aJp HF.out c0 S f3 f9 O;have m6:=aHE O;have f2:=HF.out.wk;obtain ⟨n,R,M⟩:=wQ f2;have m8:=aER (ind:=D) (t:=t) (by rw [M];simp);have Y:0<t.N.length:=(by rw [M];simp);have a1:t.N[0]=n:=(by simp [M]);have d4:Hid (uI A D t=((aS n.L 0++LX A (bJ D 201 t.N) 0 (aS n.L 0) 0)++[10])++aS t.tail 0):=(by unfold Hid uI;rw [M]);rw [d4.out] at d8;simp only [length_append,length_cons,length_nil] at d8;have g3:RdN H.heap.size H (.slice na t.N.length J) t.N:=(i7.out.K G2.out).wide G2.out.size;obtain ⟨b,b9,k6,lv,kv,xv,uv,qv,k2,m9,hp⟩:=g3.at 0 Y;have z1:=hp.L;have a0:=hp.rl;rw [a1] at a0;obtain ⟨la,m1,j3,_,_⟩:=a0.sl;cases k2;have d7:=aB (sC (.slice none 0 0) lv [] n.L 0 H.heap.size H (Bw.nil _ _) (Nat.le_refl _) a0 (fun c hc=>aG3 HF.out.d.wt (by rw [M];simp) hc) (Int.le_refl 0) (by omega) (by simp only [length_nil];omega));have d5:Hid (aMx t A D 201):=aH0 t A D c0 S HF.out.d (fun p hp=>aIe (HF.out.d.nd p hp) (HF.out.d.ok p hp)) 201 (Nat.le_refl _);have b0:Hid (∀ W:World,Below H.heap.size H W->RdN H.heap.size W (.slice (some ⟨b,b9,none⟩) t.N.length J) t.N/\RdC H.heap.size W (.slice ta t.tail.length Z) t.tail):=fun W g=>⟨sQ g3 g,dY ((d0.out H G2.out).2) g⟩;have j5:Hid (Cu (aS n.L 0)):=(by unfold Hid Cu;rw [aAM];exact nJ);have i1:Hid (∀ c∈t.tail,c.t.length<=1000000):=fun c hc=>by have:=aDM hc;have:=HF.out.wt;omega
    subst j3;rw [show b9+0*8+1=b9+1 by omega] at z1;clear hp a0 O HR a1 M
    go_wp2_with fail
    refine d7.out.mono ?_;rintro e w4 ⟨v4,rfl,o4,t4⟩;rw [nil_append] at o4;have g4:H.grownBy w4 none:=t4.gr;have G4:=aB (aA G2.out g4);have a9:=b0.out w4 (aV g4);have Q1:=aB q1;have b8:=aB (d5.out 0 [] false _ _ v4 (aS n.L 0) H.heap.size 0 0 w4 Y (by rw [drop_zero];exact f2) o4 g4.size a9.1 a9.2 j5.out (by rw [aAM];simp) (Int.le_refl 0) (by omega) (Int.le_refl 0) (by omega) (by rw [drop_zero];omega) (by rw [drop_zero];omega));rw [drop_zero,show (((0:Nat):Int))=0 from rfl] at b8;replace q0:=g4.cell q0 (by simp);replace q1:=g4.cell q1 (by simp);have d6:=aB t4;obtain ⟨a4,c4,g8,_,_⟩:=o4.sl;generalize (aS n.L 0).length=L4 at g8;subst g8;have m2:=g4.size;clear o4 t4 g4 a9 d7 d5 z1
    go_wp2_with fail
    refine b8.out.mono ?_;rintro e w5 ⟨v5,rfl,o5,t5⟩;have T5:=aB (d6.out.trans t5);have m4:=t5.gr.size;obtain ⟨v6,w6,k7,o6,t6⟩:=vW H.heap.size w5 v5 _ 10 o5 (by omega) (by simp only [length_append];omega);have T6:=aB (T5.out.trans t6);have g6:H.grownBy w6 none:=T6.out.gr;have j8:=g6.size;have f5:=aB (sC v6 _ _ t.tail 0 H.heap.size w6 o6 j8 (b0.out w6 (aV g6)).2 i1.out (Int.le_refl 0) (by omega) (by simp only [length_append,length_cons,length_nil];omega));have q1:=g6.cell Q1.out (by simp);obtain ⟨a5,c5,f7,_,_⟩:=o5.sl;obtain ⟨a6,c6,f0,_,_⟩:=o6.sl;generalize (aS n.L 0++LX A (bJ D 201 t.N) 0 (aS n.L 0) 0).length=L5 at f7;generalize (aS n.L 0++LX A (bJ D 201 t.N) 0 (aS n.L 0) 0++[10]).length=L6 at f0;subst f7 f0;clear o5 o6 t5 t6 g6 b8 d6 T5 b0
    go_wp2_with fail
    refine f5.out.mono ?_;rintro e w7 ⟨v7,rfl,o7,t7⟩;have g7:H.grownBy w7 none:=(T6.out.trans t7).gr;have G7:=aB (aA G2.out g7);rw [<- d4.out] at o7;have j7:=aB o7.rd;obtain ⟨a7,c7,f4,_,_⟩:=o7.sl;generalize (uI A D t).length=L7 at f4;subst f4;clear o7 t7 g7 f5 T6;go_wp2;go_ret2;exact ⟨_,by rw [F.out];rfl,by rw [F.out];exact j7.out,G7.out⟩
 .have F:=aB (show ftR vv A D t=([],1) by unfold ftR;rw [if_neg E]);cases vv with
  | false=>
    clear E;go_wp2;go_ret2;exact ⟨.slice none 0 0,by rw [F.out];rfl,by rw [F.out];exact G.out _,G1.out⟩
  | true=>
    by_cases c1:A<0
    .have i8:decide (A<0)=true:=(by simpa using c1);clear E;go_wp2;go_ret2;exact ⟨.slice none 0 0,by rw [F.out];rfl,by rw [F.out];exact G.out _,G1.out⟩
    .have i8:decide (A<0)=false:=by simpa using c1
     by_cases c2:65535<A
     .have i6:decide (65535<A)=true:=(by simpa using c2);clear E;go_wp2;go_ret2;exact ⟨.slice none 0 0,by rw [F.out];rfl,by rw [F.out];exact G.out _,G1.out⟩
     .have i6:decide (65535<A)=false:=by simpa using c2
      by_cases c3:D<0
      .have i9:decide (D<0)=true:=(by simpa using c3);clear E;go_wp2;go_ret2;exact ⟨.slice none 0 0,by rw [F.out];rfl,by rw [F.out];exact G.out _,G1.out⟩
      .have i9:decide (D<0)=false:=by simpa using c3
       by_cases c4:16<D
       .have n1:decide (16<D)=true:=(by simpa using c4);clear E;go_wp2;go_ret2;exact ⟨.slice none 0 0,by rw [F.out];rfl,by rw [F.out];exact G.out _,G1.out⟩
       .exact absurd ⟨rfl,⟨by omega,by omega⟩,by omega,by omega⟩ E
end Go.Proofs.YtckcaefnokeodaaGreatDoor
