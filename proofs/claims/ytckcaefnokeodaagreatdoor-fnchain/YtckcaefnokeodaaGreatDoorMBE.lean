import Derived.Test.YtckcaefnokeodaaGreatDoorMBD
set_option maxHeartbeats 16000000
set_option maxRecDepth 100000
namespace Go.Proofs.YtckcaefnokeodaaGreatDoor
open Go.Proofs.Tryz List
section
open Go.RowKit
attribute [-go_sem] Builtin.append_
theorem aLy (t) (hD:kU t) (M c6 bh H:Int) (s:List Int) (i:Nat) (hi:i<t.N.length) (hs:t.N[i].k<5\/(t.N[i].C=0/\t.N[i].tail=[])) (nv tv ov E B w) (ho:Bw B w ov E) (hB:B<=w.heap.size) (hn:RdN B w nv t.N) (ht:RdC B w tv t.tail) (a1:∀ W:World,eV W.heap.size W nv tv t->Calls prog 47 #[.agg #[nv,tv],.int .i64 i] W fun e w'=>iU W (some s) e w') (hl:E.length+s.length<=1000000000) :
  Calls prog 19 #[ov,.agg #[nv,tv],.int .i64 i,.agg #[.int .i64 M,.int .i64 c6,.int .i64 bh,.int .i64 H]] w fun e w'=>∃ v',e=.returned v'/\Bw B w' v' (E++s)/\dJ w w' ov v':=by
 have a0:Hid (∀ W:World,w.grownBy W none->Calls prog 47 #[.agg #[nv,tv],.int .i64 i] W fun e w'=>iU W (some s) e w'):=fun W g=>a1 W ⟨((hn.K g).wide (Nat.le_trans hB g.size)),((ht.K g).wide (Nat.le_trans hB g.size))⟩;have HO:=aB ho;obtain ⟨ra,rc,f2,_,_⟩:=ho.sl;obtain ⟨na,b9,f0,_⟩:=id hn;obtain ⟨ta,c0,f9,_⟩:=id ht;obtain ⟨b,f6,h0,lv,kv,xv,uv,qv,g3,j3,G⟩:=hn.at i hi;have d3:=hD.len;have z0:=G.k;have z1:=G.L;have z2:=G.mem;have z3:=G.key;have z4:=G.X;have z5:=G.U;have z6:=G.C;have z7:=G.tail;obtain ⟨la,c8,f8,_,_⟩:=G.rl.sl;obtain ⟨qa,a2,g2,_,_⟩:=G.rt.sl;obtain ⟨ka,b3,f1,_,_⟩:=G.sk;obtain ⟨xa,c7,d6,_,_⟩:=G.sx;obtain ⟨ua,b5,d2,_,_⟩:=G.su;subst f8 g2 f1 d6 d2 g3 f9 f2;cases f0;clear hn ht G hD a1 ho;generalize t.N[i]=p at *;obtain ⟨wA,a7⟩:∃ wA,wA=(w.alloc (Obj.cells #[.slice (some ⟨b,f6,none⟩) t.N.length b9,.slice ta t.tail.length c0] 26)).alloc (Obj.cells #[.int .i64 M,.int .i64 c6,.int .i64 bh,.int .i64 H] 52):=⟨_,rfl⟩;have S:w.grownBy wA none:=(by rw [a7];exact aA gWA gWA);have k7:=S.cell z0 (by simp);have i7:=S.cell z1 (by simp);have j8:=S.cell z2 (by simp);have j7:=S.cell z3 (by simp);have j6:=S.cell z4 (by simp);have k0:=S.cell z5 (by simp);have k2:=S.cell z6 (by simp);have j9:=S.cell z7 (by simp);have sA:wA.heap.size=w.heap.size+2:=(by rw [a7];simp);obtain ⟨W3,A⟩:∃ W3,W3=wA.alloc (Obj.cells #[.int .i64 p.k,.slice la p.L.length c8,.bool p.mem,.slice ka p.key.length b3,.slice xa p.X.length c7,.slice ua p.U.length b5,.int .i64 p.C,.slice qa p.tail.length a2] 49):=⟨_,rfl⟩;have gg:w.grownBy W3 none:=(by rw [A];exact aA S gWA);have GG:=aB gg;have y0:W3.cell? ⟨w.heap.size+2,0,none⟩=some (.int .i64 p.k):=(by rw [A,<- sA];simp [go_sem]);have y6:W3.cell? ⟨w.heap.size+2,6,none⟩=some (.int .i64 p.C):=(by rw [A,<- sA];simp [go_sem]);have y7:W3.cell? ⟨w.heap.size+2,7,none⟩=some (.slice qa p.tail.length a2):=(by rw [A,<- sA];simp [go_sem]);have Y:=aB (show _/\_/\_ from ⟨y0,y6,y7⟩);have HX:=aB (a0.out W3 gg);have b8:=aB A;rw [A] at HX;clear z0 z1 z2 z3 z4 z5 z6 z7 A gg S y0 y6 y7 a0;subst a7
 by_cases h5:p.k<5
 .have d9:decide (p.k<5)=true:=(by simpa using h5);clear hs
  go_enter func19,ntmps19
  go_wp2_with fail
  refine HX.out.mono ?_;rintro e w4 ⟨v4,rfl,Z,F⟩;have A:=b8.out;rw [<- A] at Z F;clear A;have n0:=F.cell Y.out.1 (by simp);have n6:=F.cell Y.out.2.1 (by simp);have n7:=F.cell Y.out.2.2 (by simp);have d5:=F.size;have I:=aA GG.out F;have gd:w4.grownBy w4.drew none:=⟨rfl,rfl,rfl,Nat.le_refl _,fun _ _ _=>rfl⟩;have D:=aA I gd;obtain ⟨v5,w5,c1,o5,g5⟩:=kV B w4.drew _ v4 E s (HO.out.K D) (Z.K gd).rd (Nat.le_trans hB D.size) (by omega);have a8:=aB ((dJ.ofg D _).trans g5);have a6:=aB o5;obtain ⟨a4,c4,O,_,_⟩:=Z.sl;obtain ⟨a5,c5,J,_,_⟩:=o5.sl;generalize s.length=SL at O;generalize (E++s).length=L5 at J;subst O J;clear Z o5 F g5 HX Y I gd D;go_wp2
  go_region
  all_goals
   go_wp2;go_ret;exact ⟨_,rfl,a6.out,a8.out⟩
 .have d9:decide (p.k<5)=false:=(by simpa using h5);obtain ⟨hc,c2⟩:p.C=0/\p.tail=[]:=(by rcases hs with h | h;exact absurd h h5;exact h);have j4:(p.C==0)=true:=(by simpa using hc);have j1:((p.tail.length:Int)==0)=true:=(by rw [c2];rfl);clear hc c2 hs
  go_enter func19,ntmps19
  go_wp2_with fail
  refine HX.out.mono ?_;rintro e w4 ⟨v4,rfl,Z,F⟩;have A:=b8.out;rw [<- A] at Z F;clear A;have n0:=F.cell Y.out.1 (by simp);have n6:=F.cell Y.out.2.1 (by simp);have n7:=F.cell Y.out.2.2 (by simp);have d5:=F.size;have I:=aA GG.out F;have gd:w4.grownBy w4.drew none:=⟨rfl,rfl,rfl,Nat.le_refl _,fun _ _ _=>rfl⟩;have D:=aA I gd;obtain ⟨v5,w5,c1,o5,g5⟩:=kV B w4.drew _ v4 E s (HO.out.K D) (Z.K gd).rd (Nat.le_trans hB D.size) (by omega);have a8:=aB ((dJ.ofg D _).trans g5);have a6:=aB o5;obtain ⟨a4,c4,O,_,_⟩:=Z.sl;obtain ⟨a5,c5,J,_,_⟩:=o5.sl;generalize s.length=SL at O;generalize (E++s).length=L5 at J;subst O J;clear Z o5 F g5 HX Y I gd D;go_wp2
  go_region
  all_goals
   go_wp2;go_ret;exact ⟨_,rfl,a6.out,a8.out⟩
end
theorem aIg (h) (x:Tr) (A D b):LX h (.un ⟨8,[],0⟩ x) A D b=match aD x [] with | some s=>if fJ D+aF s+b<=h then s else LX h x A D b | none=>LX h x A D b:=by
 unfold LX;simp only [ly];rw [if_neg (by omega)];cases aD x [] with
 | none=>rfl
 | some s=>simp only;split<;>rfl
theorem aKc (X:List Int) (h):gN [] (X++aO h)=replicate h.toNat 32:=by
 unfold aO;rw [nI,aGg,oL (by simp)];rfl
theorem xQ (h):∀ (A:List Cm) (X:List Int),gN [] (X++aO h++aS A h)=replicate h.toNat 32
 | [],X=>by simp only [aS,flatMap_nil,append_nil];exact aKc X h
 | c::A,X=>by
   have:=xQ h A (X++aO h++nO c);rw [<- this];simp [aS]
theorem aI7 (n):Vt (replicate n 32):=jK (by intro x h;have:=eq_of_mem_replicate h;omega)
theorem aK4 (X:List Int) (A n) (D:OkL (qB n)):Cu (X++aO A++aS n.L A++iL n)/\(gN [] (X++aO A++aS n.L A++iL n)).length<=A.toNat+(iL n).length:=by
 have h:=xQ A n.L X;unfold Cu;rw [nI,h];unfold iL;unfold qB at D
 split
 .rename_i hm
  rw [if_pos hm] at D;have h:OkT (bS (iT n.key++[58,32])):=D _ (by simp);obtain ⟨F,E⟩:=h rfl;rw [oL E];exact ⟨lN (aI7 _) F,by simp⟩
 .simp only [gN];exact ⟨aI7 _,by simp⟩
theorem aH7 {width} {V:List Nod->Tr} {P:List Nod->List Pc × List Nod} {ind o R} {A:List Nod} {n:Nod} {j} (h:bE P j R=n::A) :
  oU width V P ind o R (j+1)=((oU width V P ind o R j++aO ind++aS n.L ind++iL n)++LX width (V (n::A)) ind (oU width V P ind o R j++aO ind++aS n.L ind++iL n) 1)++[44]:=by
 simp only [oU,h,wrI]
theorem aHK (h) (V:List Nod->Tr) (P:List Nod->List Pc × List Nod) (A o R k):(oU h V P A o R k).length<=(oU h V P A o R (k+1)).length:=by
 simp only [oU];cases bE P k R with
 | nil=>simp only [wrI,length_append];omega
 | cons n R'=>simp only [wrI,length_append];omega
theorem aEP (A) (V:List Nod->Tr) (P:List Nod->List Pc × List Nod) (D o R):∀ (k j:Nat),j<=k->(oU A V P D o R j).length<=(oU A V P D o R k).length
 | 0,j,h=>by obtain rfl:j=0:=by omega
             exact Nat.le_refl _
 | k+1,j,h=>by
   by_cases e:j=k+1
   .rw [e];exact Nat.le_refl _
   .exact Nat.le_trans (aEP A V P D o R k j (by omega)) (aHK A V P D o R k)
theorem aAU (a b:List Cm) (h):eA (a++b) h=eA a h++eA b h:=by simp [eA]
theorem aEH (h:List Cm) (A) (k:Nat) (D:k<h.length):eA (h.take (k+1)) A=(eA (h.take k) A++aO A)++nO h[k]:=by
 rw [show h.take (k+1)=h.take k++[h[k]] by rw [take_add_one];simp [D],aAU];simp [eA]
theorem aB4 (A:List Cm) (h k):(eA (A.take k) h).length<=(eA A h).length:=by
 have:=congrArg List.length (aAU (A.take k) (A.drop k) h);rw [take_append_drop,length_append] at this;omega
theorem aKJ {width ind level b} {d:Nat} {n:Nod} {R:List Nod} {out} (h:n.k<5\/(n.C=0/\n.tail=[])):∃ s,aD (bJ ind (d+1) (n::R)) []=some s/\LX width (bJ ind (d+1) (n::R)) level out b=s:=by
 simp only [bJ]
 by_cases A:n.k<5
 .rw [if_pos A];exact ⟨_,pJ _,vH _ _ _ _ _⟩
 .obtain ⟨E,D⟩:n.C=0/\n.tail=[]:=(by rcases h with h | h;exact absurd h A;exact h);rw [if_neg A,qV,if_pos E,if_pos D];exact ⟨_,pJ _,vH _ _ _ _ _⟩
theorem aKs {A:Int} {E D} {b:Int} {d:Nat} {n:Nod} {R:List Nod} {F} {s:List Int} (N:¬ n.k<5) (S:¬ (n.C=0/\n.tail=[])) (h:aD (bJ E (d+1) (n::R)) []=some s) (M:fJ F+aF s+b<=A):LX A (bJ E (d+1) (n::R)) D F b=s:=by
 simp only [bJ,if_neg N,qV] at h ⊢
 by_cases G:n.C=0
 .exfalso;have O:n.tail≠[]:=fun e=>S ⟨G,e⟩;rw [if_pos G,if_neg O,rO] at h;have J:aD (bB 4) []=none:=(by simp [aD,bB]);simp only [eO,J,Option.bind_none] at h;cases H:aD (bS [jW n.k]) [] with
  | none=>rw [H] at h;cases h
  | some a=>
    rw [H] at h;cases I:aD (mP E (jI n.tail)) [] with
    | none=>rw [I] at h;cases h
    | some a=>rw [I] at h;cases h
 .rw [if_neg G] at h ⊢;simp only [aD] at h;rw [aIg,h];simp only;rw [if_pos M]
theorem aHN {D h A b:Int} {d:Nat} {n:Nod} {R R2:List Nod} {E m} (M:0<=h) (F:0<=A) (G:Cu E) (a0:0<=n.C) (Y:aE bD (d+1) m (n::R,())=some (R2,())) (O:∀ p∈R,p.k<5->p.C=0) (Z:∀ p∈R,NdX p) (H:NdX n) (N:¬ n.k<5) (h0:¬ (n.C=0/\n.tail=[])) (J:∀ s,aD (bJ h (d+1) (n::R)) []=some s->¬ fJ E+aF s+b<=D):E++LX D (bJ h (d+1) (n::R)) A E b=BRK D h d n R A E:=by
 obtain ⟨_,_,S⟩:=pI Y;simp only [bJ,if_neg N,qV] at J ⊢
 by_cases I:n.C=0
 .have ht:n.tail≠[]:=fun e=>h0 ⟨I,e⟩;rw [if_pos I,if_neg ht];exact aLe M F G I H
 .rw [if_neg I] at J ⊢;simp only [aD] at J
  have he:LX D (.un ⟨8,[],0⟩ (tQ h n (qQ (bJ h d) (aH h d) n.C.toNat R))) A E b=LX D (tQ h n (qQ (bJ h d) (aH h d) n.C.toNat R)) A E b:=by
   rw [aIg];cases hh:aD (tQ h n (qQ (bJ h d) (aH h d) n.C.toNat R)) [] with
   | none=>rfl
   | some s=>simp only;rw [if_neg (J s hh)]
  rw [he];exact aLA M F G (by omega) S O Z H
open Go.RowKit
def aMx (t:Tre) (width ind:Int) (d:Nat):Prop:=
 ∀ (j:Nat) (R2:List Nod) (m:Bool) (nv tv ov:Value) (out:List Int) (B:Nat) (bh level:Int) (w:World),j<t.N.length->aE bD d m (t.N.drop j,())=some (R2,())->Bw B w ov out->B<=w.heap.size->RdN B w nv t.N->RdC B w tv t.tail->
  Cu out->(gN [] out).length<=200000->0<=bh->bh<=1->0<=level->level+ind*d<=4000->mes (aH ind d (t.N.drop j)).1<=150000->out.length+(LX width (bJ ind d (t.N.drop j)) level out bh).length<=1000000000->
  Calls prog 19 #[ov,.agg #[nv,tv],.int .i64 j,.agg #[.int .i64 width,.int .i64 ind,.int .i64 bh,.int .i64 level]] w fun e w'=>∃ v',e=.returned v'/\Bw B w' v' (out++LX width (bJ ind d (t.N.drop j)) level out bh)/\dJ w w' ov v'
theorem aDM {c:Cm} : ∀ {A:List Cm},c∈A->4*c.t.length<=wC A
 | [],h=>by simp at h
 | b::A,h=>by
   simp only [wC];rcases mem_cons.1 h with rfl | h
   .omega
   .have:=aDM h;omega
theorem aJs {p:Nod} : ∀ {A:List Nod},p∈A->wN p<=wNs A
 | [],h=>by simp at h
 | b::A,h=>by
   simp only [wNs];rcases mem_cons.1 h with rfl | h
   .omega
   .have:=aJs h;omega
theorem aG3 {A} (h:wNs A<=2000000) {p:Nod} (E:p∈A) {c:Cm} (D:c∈p.L):c.t.length<=1000000:=by
 have F:=aJs E;have G:=aDM D;simp only [wN] at F;omega
theorem aJ0 {q:List Int} (h:q.all cC=true):q.length<=(aQ q).length:=by
 induction q with
 | nil=>simp
 | cons p q ih=>
   obtain ⟨D,A⟩:=aDK h;have:=(xF p).1;have:=ih A;rw [show aQ (p::q)=enc p++aQ q by simp [aQ]];simp only [length_append,length_cons];omega
theorem aFI {s} (h:Vt s):0<=aF s/\aF s<=s.length:=by
 obtain ⟨q,A,rfl⟩:=h;have:=aJ0 A;rw [kW A];omega
theorem aJS {A} (h:Cu A):0<=fJ A/\fJ A<=(gN [] A).length:=aFI h
end Go.Proofs.YtckcaefnokeodaaGreatDoor
