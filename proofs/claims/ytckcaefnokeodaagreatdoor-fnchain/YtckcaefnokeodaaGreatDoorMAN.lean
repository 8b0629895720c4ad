import Derived.Deep.RegionLaw
import Derived.Test.YtckcaefnokeodaaGreatDoorMAL
import Derived.Test.YtckcaefnokeodaaGreatDoorMAM
set_option maxHeartbeats 16000000
set_option maxRecDepth 100000
namespace Go.Proofs.YtckcaefnokeodaaGreatDoor
open Go.Proofs.Tryz List World
section
open Go.RowKit
def mN (t:Tre):Bool:=
 decide (1<=t.N.length)&&(decide (t.N.length<=4000)&&((decide (fU t.N+bY t.tail<=100000)&&decide (gK t.N+t.tail.length<=4000))&&(t.tail.all gM&&(t.N.all aU&&decide (dD t.N.length (iK t.N.length 201 false t.N)=(t.N.length:Int))))))
theorem wY (nv tv t) (w:World) (hv:eV w.heap.size w nv tv t) (ho:aE4 t) (hR:fU t.N+bY t.tail<=100000000) (hK:gK t.N+t.tail.length<=100000000) :
  Calls prog 15 #[.agg #[nv,tv]] w fun e D=>e=.returned (.bool (mN t))/\w.grownBy D none:=by
 obtain ⟨S,Y⟩:=id hv;obtain ⟨na,F,d6,_⟩:=id S;obtain ⟨ta,O,f3,_⟩:=id Y;have HN:=aB S;have HO:=aB ho;have hl:=ho.l;have a9:Hid (∀ D,w.grownBy D none->_):=fun D (g:w.grownBy D none)=>aEL nv tv t D ⟨(S.K g).wide g.size,(Y.K g).wide g.size⟩ hR hK (Nat.le_trans ho.l (by omega));have b4:Hid (∀ D,w.grownBy D none->_):=fun D (g:w.grownBy D none)=>lQ tv t.tail D ((Y.K g).wide g.size) ho.t.1 ho.t.2;have b3:Hid ((∀ p∈t.N,p.k<5->p.C=0)->∀ D,w.grownBy D none->_):=fun hc D (g:w.grownBy D none)=>aCJ t ho.l hc (fun p A=>(ho.n p A).2) 200 (by omega) 0 false nv tv D (Nat.zero_le _) ⟨(S.K g).wide g.size,(Y.K g).wide g.size⟩;have gA:w.grownBy (w.alloc (Obj.cells #[nv,tv] 26)) none:=gWA;have GA:=aB gA;subst d6 f3;clear hv S Y ho gA
 by_cases h1:t.N.length<1
 .have HF:Hid (mN t=false):=(by unfold Hid mN;rw [decide_eq_false (by omega)];rfl);have a7:(t.N.length:Int)<1:=by omega
  go_enter func15,ntmps15
  go_wp2;go_ret;exact ⟨by rw [HF.out];rfl,GA.out⟩
 by_cases h2:4000<t.N.length
 .have HF:Hid (mN t=false):=(by unfold Hid mN;rw [decide_eq_false (show ¬ t.N.length<=4000 by omega)];simp);have a7:¬ (t.N.length:Int)<1:=(by omega);have d3:(4000:Int)<t.N.length:=by omega
  go_enter func15,ntmps15
  go_wp2;go_ret;exact ⟨by rw [HF.out];rfl,GA.out⟩
 have a7:¬ (t.N.length:Int)<1:=(by omega);have d3:¬ (4000:Int)<t.N.length:=by omega
 have H:Hid (mN t=((decide (fU t.N+bY t.tail<=100000)&&decide (gK t.N+t.tail.length<=4000))&&(t.tail.all gM&&(t.N.all aU&&decide (dD t.N.length (iK t.N.length 201 false t.N)=(t.N.length:Int)))))):=by
  unfold Hid mN;rw [decide_eq_true (show 1<=t.N.length by omega),decide_eq_true (show t.N.length<=4000 by omega)];simp only [Bool.true_and]
 go_enter func15,ntmps15
 go_wp2_with fail
 refine (a9.out _ GA.out).mono ?_;rintro e w1 ⟨rfl,g1⟩;have c0:w1.cell? ⟨w.heap.size,0,none⟩=some (.slice na t.N.length F):=g1.cell (by simp [go_sem]) (by simp);have c1:w1.cell? ⟨w.heap.size,1,none⟩=some (.slice ta t.tail.length O):=g1.cell (by simp [go_sem]) (by simp);have G1:=aB (aA GA.out g1);clear g1 a9;generalize (decide (fU t.N+bY t.tail<=100000)&&decide (gK t.N+t.tail.length<=4000))=sm at *;cases sm with
 | false=>
   go_wp2;go_ret;exact ⟨by rw [H.out];rfl,G1.out⟩
 | true=>
   rw [Bool.true_and] at H
   go_wp2_with fail
   refine (b4.out _ G1.out).mono ?_;rintro e w2 ⟨rfl,g2⟩;have c2:=g2.cell c0 (by simp);have c3:=g2.cell c1 (by simp);have G2:=aB (aA G1.out g2);clear g2 b4 c0 c1;generalize t.tail.all gM=cm at *;cases cm with
   | false=>
     go_wp2;go_ret;exact ⟨by rw [H.out];rfl,G2.out⟩
   | true=>
     rw [Bool.true_and] at H;go_wp2
     go_loopw [3] (fun i wr=>∃ k:Nat,k<=t.N.length/\i=.int .i64 k/\Hid ((t.N.take k).all aU=true)/\w2.grownBy wr none) (fun i _=>t.N.length - (intOf i).toNat)
     case atStart=>exact ⟨0,Nat.zero_le _,rfl,by simp [Hid],grownBy.refl _ _⟩
     case round=>
      obtain ⟨k,hk,rfl,HA,G⟩:=hrel;have c4:=G.cell c2 (by simp);have c5:=G.cell c3 (by simp);have E:=aA G2.out G
      by_cases a1:k<t.N.length
      .obtain ⟨b,i9,f8,lv,kv,xv,uv,d2,f5,hb,A⟩:=(HN.out.K E).at k a1;cases f5;have z0:=A.k;have z1:=A.L;have z2:=A.mem;have z3:=A.key;have z4:=A.X;have z5:=A.U;have z6:=A.C;have z7:=A.tail;have HC:=aB (aC9 t.N[k] lv kv xv uv d2 w.heap.size wr E.size A.rl A.rk A.sk A.rx A.sx A.ru A.su A.rt (HO.out.n _ (getElem_mem a1)).1);obtain ⟨la,h6,f2,_,_⟩:=A.rl.sl;obtain ⟨qa,g8,f4,_,_⟩:=A.rt.sl;obtain ⟨ka,f7,d7,_,_⟩:=A.sk;obtain ⟨xa,h4,d4,_,_⟩:=A.sx;obtain ⟨ua,f9,d1,_,_⟩:=A.su;have HG:=aB G;have HW:=aB E;subst f2 f4 d7 d4 d1;clear A G E;cases hc:aU t.N[k] with
       | true=>
         have d5:=aB (yL aU t.N k a1 HA.out hc);rw [hc] at HC;clear hc;generalize t.N[k]=p at *
         go_wp2_with fail
         refine HC.out.mono ?_;rintro e w4 ⟨rfl,g4⟩;have a4:=aB (aA HG.out g4);clear g4;go_wp2
         go_roundw
         case rel=>exact ⟨k+1,by omega,by go_num,d5,a4.out⟩
         case measure=>simp [intOf];omega
       | false=>
         have HF:Hid (mN t=false):=(by unfold Hid;rw [H.out,aAv aU t.N k a1 hc];rfl);rw [hc] at HC;clear hc;generalize t.N[k]=p at *
         go_wp2_with fail
         refine HC.out.mono ?_;rintro e w4 ⟨rfl,g4⟩;have a4:=aB (aA HW.out g4);clear g4;go_wp2;go_ret;exact ⟨by rw [HF.out];rfl,a4.out⟩
      .have M:t.N.all aU=true:=by
        have:=HA.out;rw [show k=t.N.length by omega,take_length] at this;exact this
       have a8:∀ p∈t.N,p.k<5->p.C=0:=fun p A h5=>by
        have h:=(rL p).1 (all_eq_true.1 M p A);exact (h.2.2.2.2.2.2.2.2.2.1 h5).1
       have f1:Hid (mN t=decide (dD t.N.length (iK t.N.length 201 false t.N)=(t.N.length:Int))):=by
        unfold Hid;rw [H.out,M,Bool.true_and]
       have gd:wr.grownBy wr.drew none:=⟨rfl,rfl,rfl,Nat.le_refl _,fun _ _ _=>rfl⟩;have HE:=aB (b3.out a8 wr.drew (aA E gd));rw [drop_zero] at HE;have HW:=aB (aA E gd);have c6:=gd.cell c4 (by simp);have c7:=gd.cell c5 (by simp);clear E G a8 M b3 gd;generalize dD t.N.length (iK t.N.length 201 false t.N)=pl at *;go_wp2;obtain ⟨I,hI⟩:∃ I:World->Prop,I=(fun W:World=>W.cell? ⟨w.heap.size,0,none⟩=some (.slice na t.N.length F)/\W.cell? ⟨w.heap.size,1,none⟩=some (.slice ta t.tail.length O)):=⟨_,rfl⟩;have Z:I wr.drew:=(by rw [hI];exact ⟨c6,c7⟩);refine aW I (fun _=>false) (by kernel_rfl) ?_
       show fK _ _ _ _ _ _ 7 (Array.replicate 7 false) _ _
       refine bG (i:=0) (.agg #[.slice na t.N.length F,.slice ta t.tail.length O]) rfl Z (bI rfl (fun W J=>by rw [hI] at J;obtain ⟨h1,h2⟩:=J;go_simp)) ?_;refine bG (i:=2) (.pointer (some ⟨w.heap.size,0,none⟩)) rfl Z (bI rfl (fun W J=>by rw [hI] at J;obtain ⟨h1,h2⟩:=J;go_simp)) ?_;refine bG (i:=3) (.slice na t.N.length F) rfl Z (bI rfl (fun W J=>by rw [hI] at J;obtain ⟨h1,h2⟩:=J;go_simp)) ?_;refine bG (i:=4) (.int .i64 t.N.length) rfl Z (bI rfl (fun W J=>by rw [hI] at J;obtain ⟨h1,h2⟩:=J;go_simp)) ?_;refine aG (i:=1) (by kernel_rfl) (eW rfl rfl (by go_simp) HE.out ?_);rintro e w6 ⟨rfl,g⟩;have G6:=aB (aA HW.out g);have a0:I w6:=(by rw [hI];exact ⟨g.cell c6 (by simp),g.cell c7 (by simp)⟩);clear g;refine ⟨_,rfl,.inr a0,?_⟩;refine aG (i:=5) (by kernel_rfl) (bM (v:=.bool (decide (pl=(t.N.length:Int)))) rfl rfl (by go_simp;rfl) ⟨.inr a0,?_⟩);refine aG (i:=6) (by kernel_rfl) (bM (v:=.bool (decide (pl=(t.N.length:Int)))) rfl rfl (by go_simp) ⟨.inr a0,?_⟩);refine bK (by kernel_rfl) ?_ _;clear Z a0;subst hI;go_wp2;go_ret;exact ⟨by rw [f1.out];rfl,G6.out⟩
theorem aIO {s:List Int} (M:1<=s.length) (H:(0:Int)<=s[0]?.getD 0) (E:s[0]?.getD 0<128):aJ s=1/\lv s 1=s[0]?.getD 0:=by
 have D:lv s 1=s[0]?.getD 0:=by
  rw [kY M (by rw [lZ _ E];omega),lZ _ E];rfl
 have F:cC (s[0]?.getD 0)=true:=(by simp [cC];omega);have h:cP (s[0]?.getD 0)=1:=(by unfold cP;rw [if_pos F,if_pos E]);have A:hit s 1=true:=(gC D H).2 h;refine ⟨?_,D⟩;rw [bP (n:=1) (by omega) (by omega) (fun m J I G=>cO (aB6 H E m J I G)),if_pos A]
theorem aLR {s:List Int} {y:Int} (E:s[0]?.getD 0 / 32=6) (I:eL s 1) (F:y=s[0]?.getD 0%32*64+s[1]?.getD 0%64) (M:0<=y) (H:cP y=2):aJ s=2/\lv s 2=y:=by
 have A:lv s 2=y:=(by rw [F];exact lv2 E I);have h:hit s 2=true:=(gC A M).2 H;refine ⟨?_,A⟩;rw [bP (n:=2) (by omega) (by omega) (fun m J G D=>cO (pE E m J G D)),if_pos h]
theorem aHY {s:List Int} {y:Int} (E:s[0]?.getD 0 / 16=14) (I:eL s 1) (N:eL s 2) (F:y=(s[0]?.getD 0%16*64+s[1]?.getD 0%64)*64+s[2]?.getD 0%64) (M:0<=y) (H:cP y=3):aJ s=3/\lv s 3=y:=by
 have A:lv s 3=y:=(by rw [F];exact lv3 E I N);have h:hit s 3=true:=(gC A M).2 H;refine ⟨?_,A⟩;rw [bP (n:=3) (by omega) (by omega) (fun m J G D=>cO (nA E m J G D)),if_pos h]
theorem aKH {s:List Int} {y:Int} (E:s[0]?.getD 0 / 8=30) (I:eL s 1) (N:eL s 2) (O:eL s 3)
  (F:y=((s[0]?.getD 0%8*64+s[1]?.getD 0%64)*64+s[2]?.getD 0%64)*64+s[3]?.getD 0%64) (M:0<=y) (H:cP y=4):aJ s=4/\lv s 4=y:=by
 have A:lv s 4=y:=(by rw [F];exact lv4 E I N O);have h:hit s 4=true:=(gC A M).2 H;refine ⟨?_,A⟩;rw [bP (n:=4) (by omega) (by omega) (fun m J G D=>cO (lF E m J G D)),if_pos h]
theorem aLk (p) (r:List Int) (h:cC p=true):aJ (enc p++r)=(enc p).length/\lv (enc p++r) (enc p).length=p:=by
 obtain ⟨⟨D,J⟩,M⟩:=aGP h;have I:=aC8 p h
 by_cases H:cP p=1
 .have A:=aBe h H;rw [yQ p A];have:=aIO (s:=[p]++r) (by simp) (by simpa using D) (by simpa using A);simpa using this
 .by_cases E:cP p=2
  .have A:=aBa h E;rw [aF0 p A.1 A.2];refine aLR (by simp;omega) ⟨by simp,by simp;omega⟩ (by simp;omega) D E
  .by_cases G:cP p=3
   .have A:=tX h G;rw [aFi p A.1 A.2];refine aHY (by simp;omega) ⟨by simp,by simp;omega⟩ ⟨by simp,by simp;omega⟩ (by simp;omega) D G
   .have F:cP p=4:=(by omega);have A:=yO h F;rw [aFx p A];refine aKH (by simp;omega) ⟨by simp,by simp;omega⟩ ⟨by simp,by simp;omega⟩ ⟨by simp,by simp;omega⟩ (by simp;omega) D F
theorem aG2:∀ (q:List Int) (f k:Nat),q.all cC=true->(aQ q).length<=f->pts f (aQ q)=q/\err f (aQ q) k=none
 | [],f,k,_,_=>by simp [aQ,aDn,aGj]
 | p::q,f,k,h,hf=>by
   simp only [all_cons,Bool.and_eq_true] at h;have e:aQ (p::q)=enc p++aQ q:=(by simp [aQ]);have G:=xF p;rw [e] at hf ⊢;rw [length_append] at hf;obtain ⟨E,rfl⟩:∃ E,f=E+1:=⟨f - 1,by omega⟩;have D:=aLk p (aQ q) h.1;have A:enc p++aQ q≠[]:=fun h=>by have:=congrArg List.length h;simp at this;rw [this.1] at G;simp at G
   have F:aJ (enc p++aQ q)≠0:=(by rw [D.1];omega);have ih:=aG2 q E (k+aJ (enc p++aQ q)) h.2 (by omega);rw [aDW A F,aAE A F,D.1,D.2,drop_left];rw [D.1] at ih;exact ⟨by rw [ih.1],ih.2⟩
theorem aCC {q:List Int} (h:q.all cC=true):eU (aDZ q).1=(q,0,0):=by
 rw [pW q h];have:=aG2 q (aQ q).length 0 h (Nat.le_refl _);rw [zQ this.2,this.1]
theorem aBg {q:List Int} (h:q.all cC=true):aF (aDZ q).1=(q.length:Int):=by
 unfold aF;rw [aCC h];simp
theorem aLx {s n} (I:0<=lv s n) (j:Nat) (D:1<=j) (h:j<n):eL s j:=by
 have A:∀ j,1<=j->j<n->(∀ i,1<=i->i<j->eL s i)->eL s j:=by
  intro j D h E;apply Classical.byContradiction;intro H;have:=uD (n:=n) j D h E H;omega
 induction j using Nat.strongRecOn with
 | _ j ih=>exact A j D h (fun i F G=>ih i G F (by omega))
theorem aH6 {s n} (h:0<=lv s n):n<=s.length/\0<=jH n (s[0]?.getD 0):=by
 unfold lv at h
 split at h
 .omega
 .split at h
  .omega
  .omega
theorem aEy (s:List Int) (h:2<=s.length):s.take 2=[s[0]?.getD 0,s[1]?.getD 0]:=by
 rw [dM s 1 (by omega),dM s 0 (by omega)];simp
theorem aA4 (s:List Int) (h:3<=s.length):s.take 3=[s[0]?.getD 0,s[1]?.getD 0,s[2]?.getD 0]:=by
 rw [dM s 2 (by omega),aEy s (by omega)];simp
theorem aHv (s:List Int) (h:4<=s.length):s.take 4=[s[0]?.getD 0,s[1]?.getD 0,s[2]?.getD 0,s[3]?.getD 0]:=by
 rw [dM s 3 (by omega),aA4 s (by omega)];simp
theorem aLY {s} {n:Nat} (A:Bys s) (h1:1<=n) (h4:n<=4) (h:hit s n=true):enc (lv s n)=s.take n/\cC (lv s n)=true:=by
 have h0:=aG6 h
 have G:cP (lv s n)=n:=by
  simp only [hit,Bool.and_eq_true,beq_iff_eq] at h;exact h.2
 have E:cC (lv s n)=true:=by
  cases ho:cC (lv s n)
  .have:cP (lv s n)=0:=by simp [cP,ho]
   omega
  .rfl
 refine ⟨?_,E⟩;obtain ⟨O,F⟩:=aH6 h0;have b0:=A.get 0;have D:=aLx h0
 by_cases e1:n=1
 .subst e1;have J:=aBe E G
  have H:s[0]?.getD 0<128:=by
   apply Classical.byContradiction;intro S;rw [lV 1 _ (by omega) (by omega) (by omega) (by omega)] at F;omega
  have M:=(aIO O b0.1 H).2;rw [M,yQ _ H];rw [dM s 0 (by omega)];simp
 .by_cases e2:n=2
  .subst e2;have J:=aBa E G
   have H:s[0]?.getD 0 / 32=6:=by
    apply Classical.byContradiction;intro S;rw [lV 2 _ (by omega) (by omega) (by omega) (by omega)] at F;omega
   have I:=D 1 (by omega) (by omega);have M:=lv2 H I;have Y:=A.get 1;have d1:=I.2;rw [aF0 _ J.1 J.2,aEy s O,M];simp only [List.cons.injEq,and_true];omega
  .by_cases e3:n=3
   .subst e3;have J:=tX E G
    have H:s[0]?.getD 0 / 16=14:=by
     apply Classical.byContradiction;intro S;rw [lV 3 _ (by omega) (by omega) (by omega) (by omega)] at F;omega
    have I:=D 1 (by omega) (by omega);have N:=D 2 (by omega) (by omega);have M:=lv3 H I N;have Y:=A.get 1;have b2:=A.get 2;have d1:=I.2;have d2:=N.2;rw [aFi _ J.1 J.2,aA4 s O,M];simp only [List.cons.injEq,and_true];omega
   .have e4:n=4:=(by omega);subst e4;have J:=yO E G
    have H:s[0]?.getD 0 / 8=30:=by
     apply Classical.byContradiction;intro S;rw [lV 4 _ (by omega) (by omega) (by omega) (by omega)] at F;omega
    have I:=D 1 (by omega) (by omega);have N:=D 2 (by omega) (by omega);have Z:=D 3 (by omega) (by omega);have M:=lv4 H I N Z;have Y:=A.get 1;have b2:=A.get 2;have b3:=A.get 3;have d1:=I.2;have d2:=N.2;have d3:=Z.2;rw [aFx _ J,aHv s O,M];simp only [List.cons.injEq,and_true];omega
theorem aHS {s} (h:aJ s≠0):hit s (aJ s)=true:=by
 unfold aJ at h ⊢
 split
 .assumption
 .split
  .assumption
  .split
   .assumption
   .split
    .assumption
    .simp_all
theorem aKA (f:Nat):∀ (s:List Int) (k:Nat),Bys s->s.length<=f->err f s k=none->aQ (pts f s)=s/\(pts f s).all cC=true:=by
 induction f with
 | zero=>
   intro s k _ J _;have:s=[]:=eq_nil_of_length_eq_zero (by omega);subst this;simp [pts,aQ]
 | succ f ih=>
   intro s k h J D
   by_cases E:s=[]
   .subst E;simp [aDn,aQ]
   .by_cases A:aJ s=0
    .rw [aC6 E A] at D;cases D
    .rw [aAE E A] at D;rw [aDW E A];have I:=aFT s;have G:=aLY h (by omega) I (aHS A);have F:=ih (s.drop (aJ s)) (k+aJ s) (fun z H=>h z (mem_of_mem_drop H)) (by rw [length_drop];omega) D;have e:aQ (lv s (aJ s)::pts f (s.drop (aJ s)))=enc (lv s (aJ s))++aQ (pts f (s.drop (aJ s))):=(by simp [aQ]);rw [e,G.1,F.1,take_append_drop];exact ⟨rfl,by simp [G.2,F.2]⟩
theorem vB {c} (D:Bys c) (h:(eU c).2.1=0):aDZ (eU c).1=(c,0):=by
 cases A:err c.length c 0 with
 | none=>
   rw [zQ A];have:=aKA c.length c 0 D (Nat.le_refl _) A;rw [pW _ this.2,this.1]
 | some k=>rw [aAW A] at h;simp at h
theorem aCK {c} (h:(eU c).2.1≠0):aF c = -1:=by unfold aF;rw [if_neg h]
theorem lS (ind:Int) (w) (h0:0<=ind) (h1:ind<=4000) :
  Calls prog 46 #[.int .i64 ind] w fun e S=>∃ G,e=.returned G/\OwB w.heap.size S G (aO ind)/\w.grownBy S none:=by
 obtain ⟨i0,hi,H,N,I⟩:=info_parts mA
 go_enter func46,ntmps46
 go_wp2
 go_loopw [3,4] (fun ov i wr=>∃ k:Nat,(k:Int)<=ind/\i=.int .i64 k/\OwB w.heap.size wr ov (10::replicate k 32)/\Below w.heap.size w wr)
  (fun _ i _=>ind.toNat - (intOf i).toNat)
 case atStart=>
  refine ⟨0,by omega,rfl,?_,(Below.refl _ _).alloc (Nat.le_refl _) _⟩;have:=ownsRow_lit (base:=w.heap.size) (e:=5) (size:=1) w #[.int .u8 10] 1 (Nat.le_refl _) (by unfold maxLen;omega) (by simp);simpa [OwB,Ow] using this
 case round=>
  obtain ⟨k,hk,rfl,E,D⟩:=hrel;have J:=D.size
  by_cases a2:(k:Int)<ind
  .have hl:(10::replicate k (32:Int)).length=k+1:=(by simp);have a5:(10::replicate k (32:Int)).length<=4001:=(by omega);have HS:Hid ((10::replicate k (32:Int))++[32]=10::replicate (k+1) 32):=(by unfold Hid;rw [cons_append,<- replicate_succ']);clear hl;obtain ⟨oa,Y,F,_,_⟩:=aZ E;generalize (10::replicate k (32:Int))=o at *;subst F
   go_wp2_with (at_builtin;refine wpList_append_own _ rfl _ _ 22 rfl w.heap.size 5 i0 (.int .u8 0) 1 1 underlying22 hi H N I rfl (by decide) _ _ _ rfl (ownsRow.alloc E _) ⟨wr.heap.size,0,none⟩ 1 1 [.int .u8 32] rfl rfl (cell_one_new _ _ _) (by intro u O;simp at O;subst O;rfl) (by unfold maxLen;omega) (by omega) (by simp;omega) ?_;intro G w1 h A _)
   obtain ⟨O2,B2⟩:=cG (q:=.u8) (xs:=[32]) _ J E h (by simp) A;clear h A E
   go_roundw
   case rel=>exact ⟨k+1,by omega,by go_num,by rw [<- HS.out];exact O2,D.trans B2⟩
   case measure=>simp [intOf];omega
  .have M:k=ind.toNat:=(by omega);have Z:Hid (aO ind=10::replicate k 32):=(by unfold Hid aO;rw [<- M]);go_wp2;go_ret;exact ⟨_,rfl,by rw [Z.out];exact E,aC D⟩
end
def trs (its:List iF):List Tr:=its.map (·.T)
theorem aES (ind:Int) (h:ind<=4000):(aO ind).length<=4001:=by
 unfold aO;simp;omega
theorem pO (A D):∀ (f E:Nat) (its:List iF) (out met:List Int) (col:Int),szs (trs its)<f->szs (trs its)<E->lay A D f its out met col=lay A D E its out met col
 | 0,_,_,_,_,_,h,_=>by omega
 | _+1,0,_,_,_,_,_,h=>by omega
 | f+1,E+1,[],out,met,col,_,_=>by simp only [lay]
 | f+1,E+1,⟨.leaf p,n,ind⟩::rest,out,met,col,h1,h2=>by
   simp only [trs,map_cons,szs,sz] at h1 h2;have G:∀ o m c,lay A D f rest o m c=lay A D E rest o m c:=fun o m c=>pO A D f E rest o m c (by unfold trs;omega) (by unfold trs;omega);simp only [lay,G]
 | f+1,E+1,⟨.bin p x y,n,ind⟩::rest,out,met,col,h1,h2=>by
   simp only [trs,map_cons,szs,sz] at h1 h2
   have G:∀ o m c,lay A D f (⟨x,n,ind⟩::⟨y,n+aP x,ind⟩::rest) o m c=lay A D E (⟨x,n,ind⟩::⟨y,n+aP x,ind⟩::rest) o m c:=
    fun o m c=>pO A D f E _ o m c (by simp only [trs,map_cons,szs];omega) (by simp only [trs,map_cons,szs];omega)
   have F:∀ o m c,lay A D f (⟨x,n,ind⟩::rest) o m c=lay A D E (⟨x,n,ind⟩::rest) o m c:=
    fun o m c=>pO A D f E _ o m c (by simp only [trs,map_cons,szs];omega) (by simp only [trs,map_cons,szs];omega)
   simp only [lay,G,F]
 | f+1,E+1,⟨.un p x,n,ind⟩::rest,out,met,col,h1,h2=>by
   simp only [trs,map_cons,szs,sz] at h1 h2;have G:∀ o m c,lay A D f rest o m c=lay A D E rest o m c:=fun o m c=>pO A D f E rest o m c (by unfold trs;omega) (by unfold trs;omega)
   have F:∀ i o m c,lay A D f (⟨x,n,i⟩::rest) o m c=lay A D E (⟨x,n,i⟩::rest) o m c:=
    fun i o m c=>pO A D f E _ o m c (by simp only [trs,map_cons,szs];omega) (by simp only [trs,map_cons,szs];omega)
   simp only [lay,G,F]
open Go.RowKit
theorem aR (x:iF) (its:List iF):trs (x::its)=x.T::trs its:=rfl
def iJ (width:Int) (gs:Option (List Int)) (its:List iF) (out met:List Int) (col:Int):Option (List Int × List Int):=lay width gs (szs (trs its)+1) its out met col
theorem pC {A:Int} {D:Option (List Int)} {f:Nat} {its:List iF} {out met:List Int} {col:Int} (h:szs (trs its)<f):lay A D f its out met col=iJ A D its out met col:=
 pO A D f _ its out met col h (by omega)
theorem aAV (h:Int) (A:Option (List Int)) (out met:List Int) (col:Int):iJ h A [] out met col=some (out,met):=by simp [iJ,lay]
theorem xY (A:Int) (E:Option (List Int)) (p:Pc) (n:Nat) (ind:Int) (D:List iF) (out met:List Int) (col:Int):iJ A E (⟨.leaf p,n,ind⟩::D) out met col =
  if p.k=1 then iJ A E D (out++p.t) met (col+aF p.t) else if p.k=5 then iJ A E D (out++[10]) met 0
  else if p.k=2\/p.k=3\/p.k=4 then iJ A E D (out++aO ind) met ind else iJ A E D out met col:=by
 rw [iJ,aR];simp only [lay,szs,sz];have h:∀ o m c,lay A E (p.t.length+1+szs (trs D)) D o m c=iJ A E D o m c:=fun o m c=>pC (by omega);simp only [h]
theorem aAz (h:Int) (D:Option (List Int)) (p:Pc) (x y:Tr) (n:Nat) (ind:Int) (A:List iF) (out met:List Int) (col:Int):iJ h D (⟨.bin p x y,n,ind⟩::A) out met col =
  if p.k=6 then iJ h D (⟨x,n,ind⟩::⟨y,n+aP x,ind⟩::A) out met col else iJ h D (⟨x,n,ind⟩::A) out met col:=by
 rw [iJ,aR];simp only [lay,szs,sz]
 have E:∀ o m c,lay h D (p.t.length+1+(sz x+sz y)+szs (trs A)) (⟨x,n,ind⟩::⟨y,n+aP x,ind⟩::A) o m c=iJ h D (⟨x,n,ind⟩::⟨y,n+aP x,ind⟩::A) o m c:=
  fun o m c=>pC (by simp only [aR,szs];omega)
 have F:∀ o m c,lay h D (p.t.length+1+(sz x+sz y)+szs (trs A)) (⟨x,n,ind⟩::A) o m c=iJ h D (⟨x,n,ind⟩::A) o m c:=
  fun o m c=>pC (by simp only [aR,szs];omega)
 simp only [E,F]
theorem aDG (h:Int) (D:Option (List Int)) (p:Pc) (x:Tr) (n:Nat) (ind:Int) (A:List iF) (out met:List Int) (col:Int):iJ h D (⟨.un p x,n,ind⟩::A) out met col =
  if p.k=7 then iJ h D (⟨x,n,ind+p.n⟩::A) out met col
  else
   match D with
   | none=>
     match aD x [] with
     | some text=>
       if col+aF text+dZ (A.map (·.T))<=h then iJ h D A (out++text) (jE (.un p x) n met) (col+aF text)
       else iJ h D (⟨x,n,ind⟩::A) out (met.set (n+aP x) 2) col
     | none=>iJ h D (⟨x,n,ind⟩::A) out (met.set (n+aP x) 2) col
   | some g=>
     if g[n+aP x]?.getD 0=1 then
      match aD x [] with
      | some text=>iJ h D A (out++text) (jE (.un p x) n met) (col+aF text)
      | none=>none
     else if g[n+aP x]?.getD 0=2 then iJ h D (⟨x,n,ind⟩::A) out (met.set (n+aP x) 2) col
     else none:=by
 rw [iJ,aR];simp only [lay,szs,sz]
 have E:∀ i o m c,lay h D (p.t.length+1+sz x+szs (trs A)) (⟨x,n,i⟩::A) o m c=iJ h D (⟨x,n,i⟩::A) o m c:=
  fun i o m c=>pC (by simp only [aR,szs];omega)
 have F:∀ o m c,lay h D (p.t.length+1+sz x+szs (trs A)) A o m c=iJ h D A o m c:=
  fun o m c=>pC (by omega)
 simp only [E,F];cases D with
 | none=>cases aD x []<;>rfl
 | some g=>cases aD x []<;>rfl
section
variable {doc:List Pc} {st:List Int} {gn:Nat} {its:List (iF × Nat)} {out met:List Int} {col:Int} {n b:Nat} {ind:Int}
end
theorem uB:∀ (T:Tr),1<=sz T
 | .leaf _=>by simp only [sz];omega
 | .un _ _=>by simp only [sz];omega
 | .bin _ _ _=>by simp only [sz];omega
theorem mJ (A):∀ (f:Nat) (its:List iF) (out met:List Int) (col:Int),szs (trs its)<f->∃ r,lay A none f its out met col=some r
 | 0,_,_,_,_,h=>by omega
 | f+1,[],out,met,col,_=>⟨(out,met),by simp only [lay]⟩
 | f+1,⟨.leaf p,n,ind⟩::rest,out,met,col,h=>by
   simp only [aR,szs,sz] at h;have D:∀ o m c,∃ r,lay A none f rest o m c=some r:=fun o m c=>mJ A f rest o m c (by omega);simp only [lay]
   split
   .exact D _ _ _
   .split
    .exact D _ _ _
    .split
     .exact D _ _ _
     .exact D _ _ _
 | f+1,⟨.bin p x y,n,ind⟩::rest,out,met,col,h=>by
   simp only [aR,szs,sz] at h;simp only [lay]
   split
   .exact mJ A f _ _ _ _ (by simp only [aR,szs];omega)
   .exact mJ A f _ _ _ _ (by simp only [aR,szs];omega)
 | f+1,⟨.un p x,n,ind⟩::rest,out,met,col,h=>by
   simp only [aR,szs,sz] at h;simp only [lay]
   split
   .exact mJ A f _ _ _ _ (by simp only [aR,szs];omega)
   .cases aD x [] with
    | none=>exact mJ A f _ _ _ _ (by simp only [aR,szs];omega)
    | some text=>
      simp only
      split
      .exact mJ A f _ _ _ _ (by omega)
      .exact mJ A f _ _ _ _ (by simp only [aR,szs];omega)
theorem aAn {doc} {T:Tr} (h:eS doc=true) (F:bd doc []=some [T]):okN T/\dO T<=4000/\∀ p∈doc,mX p=true:=by
 have E:=h;simp only [eS,Bool.and_eq_true,F,decide_eq_true_eq] at E;have A:=E.1.1.1.2;have D:=aDd doc [] [T] A (by intro x I;cases I) F T (by simp);refine ⟨D,?_,fun p G=>all_eq_true.1 A p G⟩;rcases tD T D with ⟨H,_⟩ | ⟨_,J⟩
 .exact H
 .have:=E.2;omega
def fL (doc:List Pc) (width:Int):Option (List Int × List Int):=
 if eS doc=true/\0<=width/\width<=65535 then (match bd doc [] with | some [T]=>iJ width none [⟨T,0,0⟩] [] (replicate (grp doc doc.length) 0) 0 | _=>none) else none
def aF3 (w:World) (r:Option (List Int × List Int)) (e:Ending) (w':World):Prop:=
 match r with
 | some (out,met)=>∃ ov mv,e=.returned (.tuple #[ov,mv,.int .i64 0])/\OwB w.heap.size w' ov out/\OwI w.heap.size w' mv met/\(∀ g,ov.ownBlock=some g->mv.ownBlock≠some g)/\w.grownBy w' none
 | none=>e=.returned (.tuple #[.slice none 0 0,.slice none 0 0,.int .i64 1])/\w.grownBy w' none
end Go.Proofs.YtckcaefnokeodaaGreatDoor
