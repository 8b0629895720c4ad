import Derived.Test.YtckcaefnokeodaaGreatDoorMBS
set_option maxHeartbeats 16000000
set_option maxRecDepth 100000
namespace Go.Proofs.YtckcaefnokeodaaGreatDoor
open Go.Proofs.Tryz Go.RowKit List World
attribute [-go_sem] Builtin.append_
theorem nV.val {H B E m W I A R e F} (h:nV W I e F) (N:Sx H B E m W A R):qH H B E m W I R e F:=by
 obtain ⟨f,D,M,J,G⟩:=h;exact ⟨f,D,A,M,J,N.K G,gE G⟩
theorem aID (E:Nat) (p:Nod) (lv F N I J) (w:World) (B D m ps S) (sl:Sl lv p.L.length) (sk:Sl F p.key.length) (sx:Sl N p.X.length) (su:Sl I p.U.length) (st:Sl J p.tail.length) (h:∀ W:World,w.grownBy W none->Calls prog 99 #[.pointer (some ⟨E,0,none⟩),.agg #[.int .i64 p.k,lv,.bool p.mem,F,N,I,.int .i64 p.C,J],.string { data:=#[91] },.string { data:=#[93] },.int .i64 3] W fun e G=>qH E B D m W ps S e G) :
  Calls prog 57 #[.pointer (some ⟨E,0,none⟩),.agg #[.int .i64 p.k,lv,.bool p.mem,F,N,I,.int .i64 p.C,J]] w fun e G=>qH E B D m w ps S e G:=by
 obtain ⟨la,lc,rfl,_⟩:=sl;obtain ⟨ka,kc,rfl,_⟩:=sk;obtain ⟨xa,xc,rfl,_⟩:=sx;obtain ⟨ua,uc,rfl,_⟩:=su;obtain ⟨ta,tc,rfl,_⟩:=st;have H:=aB h;clear h
 go_enter func57,ntmps57
 go_wp2_with fail
 refine (H.out _ gWA).mono ?_;rintro e w1 ⟨f,A,M,rfl,Y,Z,O⟩;have H1:=aB Y;have H2:=aB Z;have H3:=aB (bA (gE (r:=some E) (grownBy_alloc w (Obj.cells #[.int .i64 p.k,.slice la p.L.length lc,.bool p.mem,.slice ka p.key.length kc,.slice xa p.X.length xc,.slice ua p.U.length uc,.int .i64 p.C,.slice ta p.tail.length tc] 49) none)) O (fun x e=>by cases e;exact .inr rfl));clear H Y Z O;go_wp2;go_ret;exact ⟨f,A,M,rfl,H1.out.moreB (by simp) (grownBy.refl _ _),H2.out,H3.out⟩
theorem aIA (E:Nat) (p:Nod) (lv F N I J) (w:World) (B D m ps S) (sl:Sl lv p.L.length) (sk:Sl F p.key.length) (sx:Sl N p.X.length) (su:Sl I p.U.length) (st:Sl J p.tail.length) (h:∀ W:World,w.grownBy W none->Calls prog 99 #[.pointer (some ⟨E,0,none⟩),.agg #[.int .i64 p.k,lv,.bool p.mem,F,N,I,.int .i64 p.C,J],.string { data:=#[123] },.string { data:=#[125] },.int .i64 2] W fun e G=>qH E B D m W ps S e G) :
  Calls prog 58 #[.pointer (some ⟨E,0,none⟩),.agg #[.int .i64 p.k,lv,.bool p.mem,F,N,I,.int .i64 p.C,J]] w fun e G=>qH E B D m w ps S e G:=by
 obtain ⟨la,lc,rfl,_⟩:=sl;obtain ⟨ka,kc,rfl,_⟩:=sk;obtain ⟨xa,xc,rfl,_⟩:=sx;obtain ⟨ua,uc,rfl,_⟩:=su;obtain ⟨ta,tc,rfl,_⟩:=st;have H:=aB h;clear h
 go_enter func58,ntmps58
 go_wp2_with fail
 refine (H.out _ gWA).mono ?_;rintro e w1 ⟨f,A,M,rfl,Y,Z,O⟩;have H1:=aB Y;have H2:=aB Z;have H3:=aB (bA (gE (r:=some E) (grownBy_alloc w (Obj.cells #[.int .i64 p.k,.slice la p.L.length lc,.bool p.mem,.slice ka p.key.length kc,.slice xa p.X.length xc,.slice ua p.U.length uc,.int .i64 p.C,.slice ta p.tail.length tc] 49) none)) O (fun x e=>by cases e;exact .inr rfl));clear H Y Z O;go_wp2;go_ret;exact ⟨f,A,M,rfl,H1.out.moreB (by simp) (grownBy.refl _ _),H2.out,H3.out⟩
theorem aEh (D B:Nat) (A m) (hB:B<=D) (a0:1<D):∀ (d:Nat) (R R2:List Nod) (m':Bool) (nv:Value) (w:World),Sx D B A m w nv R->NsK R->aE bD d m' (R,())=some (R2,())->
  Calls prog 59 #[.pointer (some ⟨D,0,none⟩)] w fun e w'=>aDY D B A m w (jF (aH A d) R) R2 e w'
 | 0,R,R2,m',nv,w,_,_,hw=>by simp [aE] at hw
 | d+1,[],R2,m',nv,w,_,_,hw=>by simp [aE] at hw
 | d+1,p::R,R2,m',nv,w,hs,hN,hw=>by
   have b5:=hN.nd p (by simp);have J:=hN.ok p (by simp);have N:wN p<=2000000:=(by have:=hN.wt;simp only [wNs] at this;omega);have b9:NsK R:=hN.sub (P:=[p]) rfl
   have hl:aN (aE bD d (decide (p.k=6))) p.C.toNat (R,())=some (R2,()):=by
    by_cases hm:p.mem≠m'
    .simp [aE,hm] at hw
    .by_cases h0:5<=p.k/\d=0
     .simp [aE,hm,h0,bD] at hw
     .simpa only [aE,if_neg hm,if_neg h0,bD,Option.bind_some] using hw
   show Calls _ _ _ w fun e w'=>aDY D B A m w (bT p.L++(mK p++[(aH A (d+1) (p::R)).1])) R2 e w'
   have c9:=b5.1
   by_cases h5:p.k<5
   .have Y:=(b5.2.2.2.2.2.2.2.2.2.1 h5).1;rw [Y] at hl;simp only [Int.toNat_zero,aN,Option.some.injEq,Prod.mk.injEq,and_true] at hl;subst hl;have b0:(aH A (d+1) (p::R)).1=fP p:=(by simp only [aH,if_pos h5]);rw [b0];rcases (show p.k=0\/p.k=1\/p.k=2\/p.k=3\/p.k=4 by omega) with M | M | M | M | M
    .have a4:fP p=aI aL1:=(by unfold fP;rw [if_neg (by omega),if_neg (by omega),if_pos M]);rw [a4];refine nN D B A m hB a0 p R R _ nv w hs J N 0 (by rw [M];rfl) (by omega) 96 #[] #[.pointer (some ⟨D+1,0,none⟩)] (fun args W=>by kernel_rfl) (fun W E h=>h.v0.1) (fun W E lv F I G H S rl rk sk rx sx ru su Z=>?_);have e:(#[]:Array Value)++#[.agg #[.int .i64 p.k,lv,.bool p.mem,F,I,G,.int .i64 p.C,H]]++#[.pointer (some ⟨D+1,0,none⟩)]=#[.agg #[.int .i64 p.k,lv,.bool p.mem,F,I,G,.int .i64 p.C,H],.pointer (some ⟨D+1,0,none⟩)]:=(by simp);rw [e];exact (tZ p lv F I G H (D+1) aL1 (by intro z hz;simp at hz;omega) (by simp) W S.shp.v0.2 rl.sl sk sx su Z.sl).mono fun e w' h=>h.val S
    .have a4:fP p=aI aLT:=(by unfold fP;rw [if_neg (by omega),if_neg (by omega),if_neg (by omega),if_pos M]);rw [a4];refine nN D B A m hB a0 p R R _ nv w hs J N 1 (by rw [M];rfl) (by omega) 96 #[] #[.pointer (some ⟨D+2,0,none⟩)] (fun args W=>by kernel_rfl) (fun W E h=>h.v1.1) (fun W E lv F I G H S rl rk sk rx sx ru su Z=>?_);have e:(#[]:Array Value)++#[.agg #[.int .i64 p.k,lv,.bool p.mem,F,I,G,.int .i64 p.C,H]]++#[.pointer (some ⟨D+2,0,none⟩)]=#[.agg #[.int .i64 p.k,lv,.bool p.mem,F,I,G,.int .i64 p.C,H],.pointer (some ⟨D+2,0,none⟩)]:=(by simp);rw [e];exact (tZ p lv F I G H (D+2) aLT (by intro z hz;simp at hz;omega) (by simp) W S.shp.v1.2 rl.sl sk sx su Z.sl).mono fun e w' h=>h.val S
    .have a4:fP p=aI aMs:=(by unfold fP;rw [if_neg (by omega),if_neg (by omega),if_neg (by omega),if_neg (by omega)]);rw [a4];refine nN D B A m hB a0 p R R _ nv w hs J N 2 (by rw [M];rfl) (by omega) 96 #[] #[.pointer (some ⟨D+3,0,none⟩)] (fun args W=>by kernel_rfl) (fun W E h=>h.v2.1) (fun W E lv F I G H S rl rk sk rx sx ru su Z=>?_);have e:(#[]:Array Value)++#[.agg #[.int .i64 p.k,lv,.bool p.mem,F,I,G,.int .i64 p.C,H]]++#[.pointer (some ⟨D+3,0,none⟩)]=#[.agg #[.int .i64 p.k,lv,.bool p.mem,F,I,G,.int .i64 p.C,H],.pointer (some ⟨D+3,0,none⟩)]:=(by simp);rw [e];exact (tZ p lv F I G H (D+3) aMs (by intro z hz;simp at hz;omega) (by simp) W S.shp.v2.2 rl.sl sk sx su Z.sl).mono fun e w' h=>h.val S
    .have a4:fP p=aI p.X:=(by unfold fP;rw [if_pos M]);rw [a4];refine nN D B A m hB a0 p R R _ nv w hs J N 3 (by rw [M];rfl) (by omega) 55 #[] #[] (fun args W=>by kernel_rfl) (fun W E h=>h.v3) (fun W E lv F I G H S rl rk sk rx sx ru su Z=>?_);have e:(#[]:Array Value)++#[.agg #[.int .i64 p.k,lv,.bool p.mem,F,I,G,.int .i64 p.C,H]]++#[]=#[.agg #[.int .i64 p.k,lv,.bool p.mem,F,I,G,.int .i64 p.C,H]]:=(by simp);rw [e];have c4:=S.lt;exact (aFv p lv F I G H W (rx.wideC (by omega)) sx J.x.2 J.x.1 rl.sl sk su Z.sl).mono fun e w' h=>h.val S
    .have a4:fP p=aI (quR p.U).1:=(by unfold fP;rw [if_neg (by omega),if_pos M]);rw [a4];refine nN D B A m hB a0 p R R _ nv w hs J N 4 (by rw [M];rfl) (by omega) 56 #[] #[] (fun args W=>by kernel_rfl) (fun W E h=>h.v4) (fun W E lv F I G H S rl rk sk rx sx ru su Z=>?_);have e:(#[]:Array Value)++#[.agg #[.int .i64 p.k,lv,.bool p.mem,F,I,G,.int .i64 p.C,H]]++#[]=#[.agg #[.int .i64 p.k,lv,.bool p.mem,F,I,G,.int .i64 p.C,H]]:=(by simp);rw [e];have c4:=S.lt;exact (aFN p lv F I G H W S.tab (ru.wideC (by omega)) su J.u rl.sl sk sx Z.sl).mono fun e w' h=>h.val S
   .have b0:(aH A (d+1) (p::R)).1=lD A p (itK (aH A d) p.C.toNat R):=(by simp only [aH,if_neg h5]);rw [b0];have c8:=b5.2.2.2.2.2.2.2.2.2.2;have c6:=hN.cn p (by simp);have IT:∀ (R R2:List Nod) (m':Bool) (nv:Value) (w:World),Sx D B A m w nv R->NsK R->aE bD d m' (R,())=some (R2,())->_:=fun R R2 m' nv w a b c=>aEh D B A m hB a0 d R R2 m' nv w a b c;rcases (show p.k=5\/p.k=6 by omega) with M | M
    .refine nN D B A m hB a0 p R R2 _ nv w hs J N 5 (by rw [M];rfl) (by omega) 57 #[.pointer (some ⟨D,0,none⟩)] #[] (fun args W=>by kernel_rfl) (fun W E h=>h.v5) (fun W E lv F I G H S rl rk sk rx sx ru su Z=>?_);have e:(#[.pointer (some ⟨D,0,none⟩)]:Array Value)++#[.agg #[.int .i64 p.k,lv,.bool p.mem,F,I,G,.int .i64 p.C,H]]++#[]=#[.pointer (some ⟨D,0,none⟩),.agg #[.int .i64 p.k,lv,.bool p.mem,F,I,G,.int .i64 p.C,H]]:=(by simp);rw [e];refine aID D p lv F I G H W B A m _ R2 rl.sl sk sx su Z.sl (fun W' O=>?_);rw [M] at hl
     by_cases Y:p.C=0
     .rw [Y] at hl;simp only [Int.toNat_zero,aN,Option.some.injEq,Prod.mk.injEq,and_true] at hl;subst hl;unfold lD;rw [if_pos Y]
      by_cases ht:p.tail=[]
      .rw [if_pos ht,show jW p.k=91 by rw [M];rfl,show kH p.k=93 by rw [M];rfl];exact aB8 91 93 3 (by omega) (by omega) D B A m p R E lv F I G H W' (S.K O) Y ht rl.sl sk sx su Z.sl
      .rw [if_neg ht];have hr:=aCB 91 93 3 (by omega) (by omega) D B A m hB p R E lv F I G H W' (S.K O) J N Y ht (Z.K O) rl.sl sk sx su Z.sl;rw [show jW p.k=91 by rw [M];rfl,show kH p.k=93 by rw [M];rfl];exact hr
     .exact aA9 91 93 3 (by omega) (by omega) 5 false rfl rfl rfl D B A m hB a0 d IT p R R2 E lv F I G H W' (S.K O) b9 M J N p.C.toNat (by omega) (by omega) (by omega) (by simpa using hl) (Z.K O) rl.sl sk sx su Z.sl
    .refine nN D B A m hB a0 p R R2 _ nv w hs J N 6 (by rw [M];rfl) (by omega) 58 #[.pointer (some ⟨D,0,none⟩)] #[] (fun args W=>by kernel_rfl) (fun W E h=>h.v6) (fun W E lv F I G H S rl rk sk rx sx ru su Z=>?_);have e:(#[.pointer (some ⟨D,0,none⟩)]:Array Value)++#[.agg #[.int .i64 p.k,lv,.bool p.mem,F,I,G,.int .i64 p.C,H]]++#[]=#[.pointer (some ⟨D,0,none⟩),.agg #[.int .i64 p.k,lv,.bool p.mem,F,I,G,.int .i64 p.C,H]]:=(by simp);rw [e];refine aIA D p lv F I G H W B A m _ R2 rl.sl sk sx su Z.sl (fun W' O=>?_);rw [M] at hl
     by_cases Y:p.C=0
     .rw [Y] at hl;simp only [Int.toNat_zero,aN,Option.some.injEq,Prod.mk.injEq,and_true] at hl;subst hl;unfold lD;rw [if_pos Y]
      by_cases ht:p.tail=[]
      .rw [if_pos ht,show jW p.k=123 by rw [M];rfl,show kH p.k=125 by rw [M];rfl];exact aB8 123 125 2 (by omega) (by omega) D B A m p R E lv F I G H W' (S.K O) Y ht rl.sl sk sx su Z.sl
      .rw [if_neg ht];have hr:=aCB 123 125 2 (by omega) (by omega) D B A m hB p R E lv F I G H W' (S.K O) J N Y ht (Z.K O) rl.sl sk sx su Z.sl;rw [show jW p.k=123 by rw [M];rfl,show kH p.k=125 by rw [M];rfl];exact hr
     .exact aA9 123 125 2 (by omega) (by omega) 6 true rfl rfl rfl D B A m hB a0 d IT p R R2 E lv F I G H W' (S.K O) b9 M J N p.C.toNat (by omega) (by omega) (by omega) (by simpa using hl) (Z.K O) rl.sl sk sx su Z.sl
theorem aHp (h:List Pc) (A):iY (h,true) A=(h,true):=by
 induction A with
 | nil=>rfl
 | cons q A ih=>show iY (oO (h,true) q) A=_;rw [show oO (h,true) q=(h,true) by simp [oO]];exact ih
theorem aI2 (a b:List Pc):cR (a++b)=cR a+cR b:=by
 induction a with
 | nil=>simp [cR]
 | cons p a ih=>simp only [cons_append,cR,ih];omega
theorem aHt (D):∀ (A:List Pc),A.length<=40000->cR A<=100000->(iY (A,false) D).2=eK (A++D)/\(eK (A++D)=false->(iY (A,false) D).1=A++D):=by
 induction D with
 | nil=>
   intro A G H;have E:eK (A++[])=false:=(by simp [eK];omega);rw [E];exact ⟨rfl,fun _=>by simp [iY]⟩
 | cons q D ih=>
   intro A G H;have I:=fW D
   show (iY (oO (A,false) q) D).2=_/\_
   by_cases h:A.length=40000\/100000 - cR A<(q.t.length:Int)
   .have e:oO (A,false) q=(A,true):=by unfold oO;rw [if_pos (.inr h)]
    have E:eK (A++q::D)=true:=by
     have F:cR (A++q::D)=cR A+(q.t.length+cR D):=(by rw [aI2];rfl);unfold eK;rw [F,Bool.or_eq_true];rcases h with h | h
     .left;simp;omega
     .right;rw [decide_eq_true_eq];omega
    rw [e,aHp,E];exact ⟨rfl,fun h=>by cases h⟩
   .have e:oO (A,false) q=(A++[q],false):=(by unfold oO;rw [if_neg (by simp;omega)]);rw [e];have:=ih (A++[q]) (by simp;omega) (by rw [sO];omega);simpa [iY,e] using this
theorem aIT (h):(iY ([],false) h).2=eK h/\(eK h=false->(iY ([],false) h).1=h):=by
 have:=aHt h [] (by simp) (by simp [cR]);simpa using this
theorem aHC (J B:Nat) (A m) (hB:B<=J) (b2:1<J) (R tail nv tv w) (hs:Sx J B A m w nv R) (hN:NsK R) (hw:aE bD 201 false (R,())=some ([],())) (rt:RdC B w tv tail) (f4:zI tail) (i5:wC tail<=2000000) :
  Calls prog 23 #[.pointer (some ⟨J,0,none⟩),tv] w fun e w'=>∃ f H,e=.returned (.func (.func f) #[] H)/\bU w' (fun k=>w.heap.size<=k/\k<w'.heap.size) f H (eR (jF (aH A 201) R++[aM 4]++bT tail))/\w.grownBy w' (some J):=by
 have HI:=aB (aEh J B A m hB b2 201 R [] false nv w hs hN hw);have j9:=hs.lt;have HL:Hid (∀ U:World,_):=fun U=>eE 4 U
 have j0:(jF (aH A 201) R).length<=2000020:=by
  rcases R with _ | ⟨n,R⟩
  .simp [aE] at hw
  .obtain ⟨n',P,hP,hm⟩:=tF A 201 false (n::R) [] hw (fun p hp h5=>((hN.nd p hp).2.2.2.2.2.2.2.2.2.1 h5).1);have hn:n=n':=(by simp at hP;exact hP.1);subst hn;have h1:=aCr (V:=aH A 201) n R (wN n+wNs P) (by omega);have h2:=dH (jF (aH A 201) (n::R));have h3:=hN.wt;have h4:wNs (n::R)=wN n+wNs P:=(by rw [hP];simp [wNs]);omega
 have i9:=jL tail;have f5:=dH (bT tail);obtain ⟨ta,tc,c8,_,_⟩:=rt.sl;have c9:=aB rt;have HM:=aB hs.mx;subst c8;clear hs hN hw rt
 go_enter func23,ntmps23
 go_wp2_with fail
 refine HI.out.mono ?_;rintro e w1 ⟨v1,d2,rfl,o1,h1,g1⟩;obtain ⟨pa,pc,d5⟩:=o1.sl;generalize a0:(jF (aH A 201) R).length=L1 at *;have D:=aB o1;have G1:=aB g1;have b1:=aB h1;subst d5;clear o1 h1 g1 HI
 go_wp2_with fail
 refine (HL.out w1).mono ?_;rintro e w2 ⟨f2,I,rfl,a8,Y⟩;have b0:=sR Y.size a8;have gA:=grownBy_alloc w2 (Obj.cells #[.func (.func f2) #[] I] 57) none;have s1:=G1.out.size;have s2:=Y.size;obtain ⟨v3,w3,g8,o3,g3⟩:=cJ w.heap.size _ _ _ _ _ _ ((D.out.K Y).K gA) b0 (fun k G=>⟨by have:=G.1;omega,G.2,fun e=>by have h1:=G.1;have h2:=(D.out.lt k e).2;omega⟩) (by simp;omega) (by rw [a0];simp;omega);obtain ⟨a3,c3,b4⟩:=o3.sl;have O:(jF (aH A 201) R++[aM 4]).length=L1+1:=(by rw [length_append,a0];rfl);rw [O] at b4;have M:∀ x,(Value.slice pa L1 pc).ownBlock=some x->w.heap.size<=x:=fun x e=>(D.out.lt x e).1;have G3:=aB (bA (bA (bA G1.out Y (fun x e=>by cases e)) gA (fun x e=>by cases e)) g3 (fun x e=>.inl (M x e)));have a6:Sx J B A m w3 d2 []:=pR ((b1.out.K Y).K gA) g3 (fun x e=>by have:=M x e;omega) hB b2;have s3:=G3.out.size;have Z:=aB (nK (.slice ta tail.length tc) tail m w3 ((c9.out.beside G3.out (fun k e=>by cases e;exact hB)).wide (by omega)) f4 (by omega) a6.mx);have E:=aB o3;subst b4;clear o3 g3 b0 gA a8 Y a6 M D b1 HL
 go_wp2_with fail
 refine Z.out.mono ?_;rintro e w4 ⟨v4,rfl,o4,g4⟩;obtain ⟨F4,F,b7⟩:=o4.pa;obtain ⟨a4,c4,b6⟩:=o4.sl;have s4:=g4.size;obtain ⟨v5,w5,h7,o5,g5⟩:=cJ w.heap.size w4 _ v4 _ _ F4 (E.out.K g4) b7 (fun k G=>⟨by have:=(F k G).1;omega,(F k G).2,fun e=>by have h1:=(F k G).1;have h2:=(E.out.lt k e).2;omega⟩) (by omega) (by rw [O];omega);obtain ⟨a5,c5,b3⟩:=o5.sl;have a7:∀ x,(Value.slice a3 (L1+1) c3).ownBlock=some x->w.heap.size<=x:=fun x e=>(E.out.lt x e).1;have G5:=aB (bA (bA G3.out g4 (fun x e=>by cases e)) g5 (fun x e=>.inl (a7 x e)));obtain ⟨F5,N,a1⟩:=o5.pa;have b8:=aB (sN v5 _ F5 w5 a1 (fun k h=>(N k h).2) (by rw [length_append,O];omega));have a2:=aB N;generalize (jF (aH A 201) R++[aM 4]++bT tail).length=L5 at b3;generalize (bT tail).length=L4 at b6;subst b6 b3;clear o4 o5 g4 g5 b7 F a1 N a7 E Z
 go_wp2_with fail
 refine b8.out.mono ?_;rintro e w6 ⟨f6,S,rfl,b5,g6⟩;have f3:=aB b5;have G6:=aB (bA G5.out g6 (fun x e=>by cases e));have s6:=g6.size;have s5:=G5.out.size;clear b8 b5 g6;go_wp2;go_ret;exact ⟨f6,S,rfl,f3.out.at (fun k G=>G.elim (fun h=>⟨(a2.out k h).1,by have:=(a2.out k h).2;omega⟩) (fun h=>⟨by have:=h.1;omega,h.2⟩)) (fun _ _=>rfl),G6.out⟩
theorem aDf (n h:Int) (w):Calls prog 20 #[.int .i64 n,.int .i64 h] w fun e E=>e=.returned (.bool (decide (0<=n/\n<=h)))/\w=E:=by
 by_cases D:0<=n
 .have A:decide (0<=n)=true:=by simpa using D
  go_enter func20,ntmps20
  go_wp2;go_ret;exact ⟨by simp [D],rfl⟩
 .have A:decide (0<=n)=false:=by simpa using D
  go_enter func20,ntmps20
  go_wp2;go_ret;exact ⟨by simp,rfl⟩
theorem DfR.base {H} {H':Nat} {w v J} (h:DfR H w v J) (E:H'<=H):DfR H' w v J:=by
 obtain ⟨A,O,N,G,M⟩:=h;exact ⟨A,O,gP E N,fun j p D F I=>⟨(G j p D F I).1.base E,(G j p D F I).2⟩,M⟩
theorem aMD (A) (t:Tre) (D:aE bD 201 false (t.N,())=some ([],())):eR (jF (aH A 201) t.N++[aM 4]++bT t.tail)=eM A t:=by
 unfold eM;rcases hh:t.N with _ | ⟨n,R⟩
 .rw [hh] at D;simp [aE] at D
 .rw [hh] at D
  have E:n.mem=false:=by
   by_cases h:n.mem≠false
   .simp [aE,h] at D
   .simpa using h
  simp [jF,mK,E]
theorem aBX (t:Tre) (A m:Int) (vv:Bool) (d8:vv=true->NsK t.N/\zI t.tail/\wC t.tail<=2000000/\aE bD 201 false (t.N,())=some ([],())) (nv tv) (w:World) (hv:eV w.heap.size w nv tv t) (hT:Tab w) (hM:w.cell? ⟨1,0,none⟩=some (.int .i64 m)) (O:∀ W:World,eV W.heap.size W nv tv t->Tab W->W.cell? ⟨1,0,none⟩=some (.int .i64 m)->Calls prog 21 #[.agg #[nv,tv]] W fun e f7=>e=.returned (.bool vv)/\W.grownBy f7 none) :
  Calls prog 6 #[.agg #[nv,tv],.int .i64 A] w fun e w'=>∃ v',e=.returned (.tuple #[v',.int .i64 (bdR vv A t).2])/\DfR w.heap.size w' v' (bdR vv A t).1/\w.grownBy w' none:=by
 have i2:∀ (x:Bool) (w:World),(Op.unary .not (.bool x)).run prog w=.ok (.bool (!x)) w:=fun _ _=>rfl;obtain ⟨a6,b3⟩:=id hv;have h7:2<=w.heap.size:=block_lt_of_cell? w _ hM;have h5:Hid (∀ W:World,w.grownBy W none->eV W.heap.size W nv tv t):=fun W g=>⟨(a6.K g).wide g.size,(b3.K g).wide g.size⟩;have HV:Hid (∀ W:World,w.grownBy W none->_):=fun W (g:w.grownBy W none)=>O W (h5.out W g) (hT.K g) (g.cell hM (by simp));have H1:=aB d8;have HT:=aB hT;have HM:=aB hM;have HN:=aB a6;have g7:=aB b3;have HW:Hid (∀ U:World,_):=fun U=>aDf A 16 U;obtain ⟨na,E,g4,_⟩:=id a6;obtain ⟨ta,J,h4,_⟩:=id b3;subst g4 h4;clear a6 b3 hv O d8 hT hM;have gA:=grownBy_alloc w (Obj.cells #[.slice na t.N.length E,.slice ta t.tail.length J] 26) none;have GA:=aB gA;clear gA
 by_cases a9:0<=A/\A<=16
 .have a2:decide (0<=A/\A<=16)=true:=by simpa using a9
  go_enter func6,ntmps6
  go_wp2_with fail
  refine (HW.out _).mono ?_;rintro e w0 ⟨rfl,c0⟩;rw [a2];subst c0;clear HW
  go_wp2_with fail
  refine (HV.out _ GA.out).mono ?_;rintro e S ⟨rfl,g1⟩;have q0:=g1.cell (a:=⟨w.heap.size,0,none⟩) (v:=.slice na t.N.length E) (by simp [go_sem]) (by simp);have q1:=g1.cell (a:=⟨w.heap.size,1,none⟩) (v:=.slice ta t.tail.length J) (by simp [go_sem]) (by simp);have G1:=aB (aA GA.out g1);have s1:w.heap.size+1<=S.heap.size:=(by have:=g1.size;simp at this;omega);clear HV g1;cases vv with
  | false=>
    have HR:=aB (show bdR false A t=([],1) by simp [bdR]);go_wp2;go_ret2;exact ⟨.slice none 0 0,by rw [HR.out];rfl,by rw [HR.out];exact DfR.nil _ _,G1.out⟩
  | true=>
    obtain ⟨hN,h3,g0,d4⟩:=H1.out rfl;obtain ⟨D,hD⟩:∃ D,D=(S.alloc (Obj.cells #[.slice none 0 0,.int .i64 100000,.bool false] 55)).drew:=⟨_,rfl⟩;have gD:S.grownBy D none:=(by rw [hD];exact aA gWA ⟨rfl,rfl,rfl,Nat.le_refl _,fun _ _ _=>rfl⟩);have sD:D.heap.size=S.heap.size+1:=(by rw [hD];simp);have b0:D.cell? ⟨S.heap.size,0,none⟩=some (.slice none 0 0):=(by rw [hD];simp [go_sem]);have b1:D.cell? ⟨S.heap.size,1,none⟩=some (.int .i64 100000):=(by rw [hD];simp [go_sem]);have b2:D.cell? ⟨S.heap.size,2,none⟩=some (.bool false):=(by rw [hD];simp [go_sem]);have bf:∀ j,D.frozen? ⟨S.heap.size,j,none⟩=false:=fun j=>by rw [hD];simp [go_sem]
    have c9:=aA G1.out gD;have d9:=aB (aBT na t.N.length E A D);obtain ⟨I,hI⟩:∃ I:World->Prop,I=(fun U:World=>U.cell? ⟨w.heap.size,0,none⟩=some (.slice na t.N.length E)/\U.cell? ⟨w.heap.size,1,none⟩=some (.slice ta t.tail.length J)):=⟨_,rfl⟩;have G:I D:=(by rw [hI];exact ⟨gD.cell q0 (by simp),gD.cell q1 (by simp)⟩);have HR:=aB (show bdR true A t=if eK (eM A t)=true then ([],4) else (eM A t,0) by unfold bdR;rw [if_pos ⟨rfl,a9⟩]);have f8:=aB (aMD A t d4)
    go_wp2_with fail
    refine aW I (fun _=>false) (by kernel_rfl) ?_;rw [<- hD]
    show fK _ _ _ _ _ _ 8 (Array.replicate 8 false) _ _
    refine bG (i:=0) (.pointer (some ⟨w.heap.size,0,none⟩)) rfl G (bI rfl (fun U hU=>by go_simp)) ?_;refine bG (i:=1) (.slice na t.N.length E) rfl G (bI rfl (fun U hU=>by rw [hI] at hU;obtain ⟨h0,h1⟩:=hU;go_simp)) ?_;refine bG (i:=2) (.int .i64 A) rfl G (bI rfl (fun U hU=>by go_simp)) ?_;refine bG (i:=4) (.pointer (some ⟨w.heap.size,1,none⟩)) rfl G (bI rfl (fun U hU=>by go_simp)) ?_;refine bG (i:=5) (.slice ta t.tail.length J) rfl G (bI rfl (fun U hU=>by rw [hI] at hU;obtain ⟨h0,h1⟩:=hU;go_simp)) ?_;generalize hG:Act.put _ _ _=A0;simp [Act.put] at hG;subst hG;refine aG (i:=3) (by kernel_rfl) (eW rfl rfl (by go_simp) d9.out ?_);rintro e w2 ⟨rfl,c7,g2⟩;have F:=aA c9 g2;have a0:I w2:=(by rw [hI] at G ⊢;exact ⟨g2.cell G.1 (by simp),g2.cell G.2 (by simp)⟩);refine ⟨_,rfl,.inr a0,?_⟩;have s2:=g2.size;have c8:Sx D.heap.size w.heap.size A m w2 (.slice na t.N.length E) t.N:=⟨c7,HN.out.K F,HT.out.K F,F.cell HM.out (by simp)⟩;have d6:=aB (aHC D.heap.size w.heap.size A m (by omega) (by omega) t.N t.tail (.slice na t.N.length E) (.slice ta t.tail.length J) w2 c8 hN d4 (g7.out.K F) h3 g0);refine aG (i:=6) (by kernel_rfl) (eW rfl rfl (by go_simp) d6.out ?_);rintro e w3 ⟨f,d7,rfl,c1,Y⟩;have b7:I w3:=(by rw [hI] at a0 ⊢;exact ⟨Y.cell a0.1 (by simp;omega),Y.cell a0.2 (by simp;omega)⟩);refine ⟨_,rfl,.inr b7,?_⟩;refine aG (i:=7) (by kernel_rfl) (bM (w':=w3) (v:=.func (.func f) #[] d7) rfl rfl (by go_simp) ⟨.inr b7,?_⟩);refine bK (by kernel_rfl) ?_ _;have a8:some S.heap.size≠some D.heap.size:=(by simp;omega);have e0:=Y.cell (g2.cell b0 (by simp)) a8;have e1:=Y.cell (g2.cell b1 (by simp)) a8;have e2:=Y.cell (g2.cell b2 (by simp)) a8
    have ef:∀ j,w3.frozen? ⟨S.heap.size,j,none⟩=false:=fun j=>by
     rw [frozen?_of_block (Y.block S.heap.size (by omega) a8),frozen?_of_block (g2.block S.heap.size (by omega) (by simp))];exact bf j
    have f1:iC w3.heap.size w3 S.heap.size ([],false):=⟨⟨_,e0,DfR.nil _ _⟩,by simpa [cR] using e1,e2,ef,by simp,by simp [cR]⟩;have s3:=Y.size;have j4:=c1.1;have a5:=aB (c1.2.2 w3.heap.size S.heap.size w3 ([],false) (fun k hk=>⟨hk.2,by have:=hk.1;omega,rfl⟩) f1 (by omega) (Nat.le_refl _));rw [f8.out] at a5;have G3:Hid (w.grownBy w3 none):=⟨Y.os.trans F.os,Y.tape.trans F.tape,Y.output.trans F.output,Nat.le_trans F.size Y.size,fun k hk _=>(Y.block k (by omega) (by simp;omega)).trans (F.block k hk (by simp))⟩;subst hI;clear d6 d9 c8 c7 g2 Y F c9 gD hD b0 b1 b2 bf e0 e1 e2 ef f1 c1 G a0 b7 q0 q1
    go_wp2_with fail
    refine a5.out.mono ?_;rintro e w4 ⟨rfl,a4,H⟩;obtain ⟨c2,b8⟩:=aIT (eM A t);obtain ⟨dv,d0,Z⟩:=a4.v;have d2:=a4.f;have s4:=H.size;have G4:Hid (w.grownBy w4 none):=⟨H.os.trans G3.out.os,H.tape.trans G3.out.tape,H.output.trans G3.out.output,Nat.le_trans G3.out.size H.size,fun k hk _=>(H.block k (by omega) (by omega)).trans (G3.out.block k hk (by simp))⟩;rw [c2] at d2;cases M:eK (eM A t) with
    | true=>
      rw [M] at d2;have a1:=aB (show bdR true A t=([],4) by rw [HR.out,M];rfl);clear HR M c2 b8 Z d0 a4 H a5;go_wp2;go_ret2;exact ⟨.slice none 0 0,by rw [a1.out];rfl,by rw [a1.out];exact DfR.nil _ _,G4.out⟩
    | false=>
      rw [M] at d2;have a1:=aB (show bdR true A t=(eM A t,0) by rw [HR.out,M];rfl);rw [b8 M] at Z;obtain ⟨da,dc,d1⟩:=Z.sl;have g5:=aB (Z.base (H':=w.heap.size) (by omega));generalize (eM A t).length=DL at d1;subst d1;clear HR M c2 b8 Z a4 H a5;go_wp2;go_ret2;exact ⟨.slice da DL dc,by rw [a1.out];rfl,by rw [a1.out];exact g5.out,G4.out⟩
 .have a2:decide (0<=A/\A<=16)=false:=(by simpa using a9);have HR:=aB (show bdR vv A t=([],1) by unfold bdR;rw [if_neg (fun h=>a9 h.2)])
  go_enter func6,ntmps6
  go_wp2_with fail
  refine (HW.out _).mono ?_;rintro e w0 ⟨rfl,c0⟩;rw [a2];subst c0;clear HW HV;go_wp2;go_ret2;exact ⟨.slice none 0 0,by rw [HR.out];rfl,by rw [HR.out];exact DfR.nil _ _,GA.out⟩
end Go.Proofs.YtckcaefnokeodaaGreatDoor
