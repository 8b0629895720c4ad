import Derived.Test.YtckcaefnokeodaaGreatDoorMAO
set_option maxHeartbeats 16000000
set_option maxRecDepth 100000
namespace Go.Proofs.YtckcaefnokeodaaGreatDoor
open Go.Proofs.Tryz Go.RowKit List World
theorem rM (B w S Y rv E h) (p:Pc) (hS:Bst B w S Y rv E (cF E) h) (hk:(p.k=8/\p.n=0)\/p.k=7) (hB:B<=w.heap.size) (hl:E.length<=1048576) (d1:(cF E).length<=1048576) (hg:∀ x∈E,0<=x.n/\x.n<=4000) :
  Calls prog 108 #[.pointer (some ⟨S,0,none⟩),.int .i64 p.k,.int .i64 p.n] w fun e w'=>gJ B w S ((cF E).length+1) (fF h (cK E) p) e w':=by
 have c1:=hS.c1;obtain ⟨ra,c7,d2,f6,d6⟩:=aZ hS.row
 by_cases h2:E.length<1
 .have HF:Hid (fF h (cK E) p=none):=by
   have:=rT E;unfold Hid fF;rcases hst:cK E with _ | ⟨y,r⟩
   .rfl
   .rw [hst] at this;simp at this;omega
  subst d2;clear hS d6
  go_enter func108,ntmps108
  go_wp2;go_ret;exact ⟨Below.refl _ _,by rw [HF.out];rfl⟩
 .obtain ⟨r,X,a1⟩:=aNl E h2;have b9:r.length<=1048576:=(by rw [a1] at hl;simp at hl;omega);obtain ⟨f9,g1⟩:=hg X (by rw [a1];simp)
  have HF:Hid (fF h (cK E) p=if p.n<0\/4000 - X.n<p.n then none else some (h,(.un p X.T,X.n+p.n)::cK r)):=by
   unfold Hid;rw [a1,eX];rfl
  have d0:Hid (cF E=cF r++X.l):=(by unfold Hid;rw [a1,cX,cY]);have N:Bst B w S Y rv (r++[X]) (cF E) h:=(by have:=hS;rw [a1] at this ⊢;exact this);have hX:=N.rep X (by simp);obtain ⟨F,D,d3⟩:=hX.form;have J:=aDm B w S Y rv r (cF E) h X N hB b9;have HX:Hid (Rep (Xof S Y rv) B w X.v X.T):=hX;have PX:Hid (cU w X.v X.T X.l):=N.post X (by simp);rw [d3] at J;subst d2;clear hS N hX a1 hg
  by_cases O:p.n<0\/4000 - X.n<p.n
  .have a7:Hid (fF h (cK E) p=none):=(by unfold Hid;rw [HF.out,if_pos O]);clear HF
   by_cases d8:p.n<0
   .clear O
    go_enter func108,ntmps108
    go_wp2_with fail
    refine J.mono ?_;rintro e A ⟨rfl,H,a0,G⟩;have HB:Hid (Below B w (A.alloc (.cells #[.iface F D,.int .i64 X.n] 210))):=(G.grown gWA hB).bel;clear a0 G;go_wp2;go_ret;exact ⟨HB.out,by rw [a7.out];rfl⟩
   .have f0:4000 - X.n<p.n:=(by omega);clear O
    go_enter func108,ntmps108
    go_wp2_with fail
    refine J.mono ?_;rintro e A ⟨rfl,H,a0,G⟩;have HB:Hid (Below B w (A.alloc (.cells #[.iface F D,.int .i64 X.n] 210))):=(G.grown gWA hB).bel;clear a0 G;go_wp2;go_ret;exact ⟨HB.out,by rw [a7.out];rfl⟩
  .have d8:¬ p.n<0:=(by omega);have f0:¬ 4000 - X.n<p.n:=(by omega);have a7:Hid (fF h (cK E) p=some (h,(.un p X.T,X.n+p.n)::cK r)):=(by unfold Hid;rw [HF.out,if_neg O]);clear HF O;have HK:=hk;clear hk
   go_enter func108,ntmps108
   go_wp2_with fail
   refine J.mono ?_;rintro e A ⟨rfl,H,a0,G⟩;have g0:=G.bel.size;have b0:Hid (Fr B S Y (Value.slice ra E.length c7) Y H w A):=G;have a3:Hid (Bst B A S Y H r (cF E) h):=a0;have b2:∀ b,A.heap.size<=b->¬ Xof S Y H b:=aDI a0;have a2:Hid (∀ b,A.heap.size<=b->¬ Xof S Y H b):=b2;have b7:=G.rep HX.out;have c5:=G.post HX.out PX.out;rw [d3] at b7 c5;have b1:Hid (cU A (.iface F D) X.T X.l):=c5;have M:Hid (Rep (Xof S Y H) B A (.iface F D) X.T):=b7;have gA:Hid (A.grownBy ((A.alloc (.cells #[.iface F D,.int .i64 X.n] 210)).alloc (.cells #[.iface F D] 174)) none):=aA gWA gWA;clear a0 G b2 b7 J HX PX c5;rcases HK with ⟨c3,d4⟩ | b4
   .have e8:(p.k==8)=true:=by rw [c3];rfl
    have b6:Calls prog 105 #[.pointer (some ⟨S,0,none⟩),.iface 177 (.pointer (some ⟨A.heap.size+1+1,0,none⟩)),.int .i64 X.n] (((A.alloc (.cells #[.iface F D,.int .i64 X.n] 210)).alloc (.cells #[.iface F D] 174)).alloc (.cells #[.iface F D] 179))
     fun e w'=>e=.returned (.tuple #[])/\Below B w w'/\∃ Y rv I,cK I=(.un p X.T,X.n+p.n)::cK r/\Bst B w' S Y rv I (cF I) h/\(cF I).length=(cF E).length+1:=by
     have a8:=aK9 (t:=179) (p:=p) (M.out.K gA.out) (a2.out _ (by simp;omega)) c3;have gB:((A.alloc (.cells #[.iface F D,.int .i64 X.n] 210)).alloc (.cells #[.iface F D] 174)).grownBy (((A.alloc (.cells #[.iface F D,.int .i64 X.n] 210)).alloc (.cells #[.iface F D] 174)).alloc (.cells #[.iface F D] 179)) none:=gWA;have Z:=aJm (t:=179) (p:=p) (M.out.K gA.out) (b1.out.K M.out gA.out) 177 (by omega);have b8:=(a3.out.K gA.out).once.new 177 ((A.alloc (.cells #[.iface F D,.int .i64 X.n] 210)).alloc (.cells #[.iface F D] 174)).heap.size (Nat.le_refl _);have:=kQ B _ S Y H r (cF E) h ⟨_,.un p X.T,X.n,_⟩ ((a3.out.K gA.out).K gB) a8 Z (fun t b e=>by cases e;exact ⟨⟨a2.out _ (by simp;omega),_,_,heap_alloc_new _ _⟩,b8⟩) (by simp;omega) b9 d1;simp only [size_alloc] at this;refine this.mono ?_;rintro e w' ⟨rfl,c4,c0,N,c2⟩
     have a5:cF (r++[(⟨.iface 177 (.pointer (some ⟨A.heap.size+1+1,0,none⟩)),.un p X.T,X.n,X.l++[.iface 177 (.pointer (some ⟨A.heap.size+1+1,0,none⟩))]⟩:Mk)])=cF E++[.iface 177 (.pointer (some ⟨A.heap.size+1+1,0,none⟩))]:=by
      rw [cX,cY,d0.out];simp
     exact ⟨rfl,((b0.out.grown gA.out hB).grown gB hB).bel.trans c2.bel,c4,c0,r++[(⟨.iface 177 (.pointer (some ⟨A.heap.size+1+1,0,none⟩)),.un p X.T,X.n,X.l++[.iface 177 (.pointer (some ⟨A.heap.size+1+1,0,none⟩))]⟩:Mk)],by rw [eX,d4];simp,by rw [a5];exact N,by rw [a5];simp⟩
    clear c3 M b1 a3 b0 a2 d4
    go_wp2_with fail
    refine b6.mono ?_;rintro e w4 ⟨rfl,a6,h4⟩;go_wp2;go_ret;refine ⟨a6,?_⟩;rw [a7.out];exact ⟨rfl,h4⟩
   .have e8:(p.k==8)=false:=by rw [b4];rfl
    have b6:Calls prog 105 #[.pointer (some ⟨S,0,none⟩),.iface 172 (.pointer (some ⟨A.heap.size+1+1,0,none⟩)),.int .i64 (X.n+p.n)] (((A.alloc (.cells #[.iface F D,.int .i64 X.n] 210)).alloc (.cells #[.iface F D] 174)).alloc (.cells #[.iface F D,.int .i64 p.n] 176))
     fun e w'=>e=.returned (.tuple #[])/\Below B w w'/\∃ Y rv I,cK I=(.un p X.T,X.n+p.n)::cK r/\Bst B w' S Y rv I (cF I) h/\(cF I).length=(cF E).length+1:=by
     have a8:=aK6 (t:=176) (p:=p) (nv:=.int .i64 p.n) (M.out.K gA.out) (a2.out _ (by simp;omega)) b4;have gB:((A.alloc (.cells #[.iface F D,.int .i64 X.n] 210)).alloc (.cells #[.iface F D] 174)).grownBy (((A.alloc (.cells #[.iface F D,.int .i64 X.n] 210)).alloc (.cells #[.iface F D] 174)).alloc (.cells #[.iface F D,.int .i64 p.n] 176)) none:=gWA;have Z:=aJE (t:=176) (p:=p) (M.out.K gA.out) (b1.out.K M.out gA.out) 172;have b8:=(a3.out.K gA.out).once.new 172 ((A.alloc (.cells #[.iface F D,.int .i64 X.n] 210)).alloc (.cells #[.iface F D] 174)).heap.size (Nat.le_refl _);have:=kQ B _ S Y H r (cF E) h ⟨_,.un p X.T,X.n+p.n,_⟩ ((a3.out.K gA.out).K gB) a8 Z (fun t b e=>by cases e;exact ⟨⟨a2.out _ (by simp;omega),_,_,heap_alloc_new _ _⟩,b8⟩) (by simp;omega) b9 d1;simp only [size_alloc] at this;refine this.mono ?_;rintro e w' ⟨rfl,c4,c0,N,c2⟩
     have a5:cF (r++[(⟨.iface 172 (.pointer (some ⟨A.heap.size+1+1,0,none⟩)),.un p X.T,X.n+p.n,X.l++[.iface 172 (.pointer (some ⟨A.heap.size+1+1,0,none⟩))]⟩:Mk)])=cF E++[.iface 172 (.pointer (some ⟨A.heap.size+1+1,0,none⟩))]:=by
      rw [cX,cY,d0.out];simp
     exact ⟨rfl,((b0.out.grown gA.out hB).grown gB hB).bel.trans c2.bel,c4,c0,r++[(⟨.iface 172 (.pointer (some ⟨A.heap.size+1+1,0,none⟩)),.un p X.T,X.n+p.n,X.l++[.iface 172 (.pointer (some ⟨A.heap.size+1+1,0,none⟩))]⟩:Mk)],by rw [eX],by rw [a5];exact N,by rw [a5];simp⟩
    clear b4 M b1 a3 b0 a2
    go_wp2_with fail
    refine b6.mono ?_;rintro e w4 ⟨rfl,a6,h4⟩;go_wp2;go_ret;refine ⟨a6,?_⟩;rw [a7.out];exact ⟨rfl,h4⟩
theorem gJ.first {B w E A k o e D} (F:Below B w E) (h:gJ B E A k o e D):gJ B w A k o e D:=⟨F.trans h.1,h.2⟩
theorem aL4 {A st} {p:Pc} (h:(p.k≠1/\0<p.t.length)\/(p.k≠7/\p.n≠0)):bR A st p=none:=by unfold bR;rw [if_pos h]
theorem aLf {A st} {p:Pc} (h:¬ ((p.k≠1/\0<p.t.length)\/(p.k≠7/\p.n≠0))) (D:p.k=1):bR A st p=gQ A st p:=by unfold bR gQ;rw [if_neg h,if_pos D]
theorem vR {A st} {p:Pc} (h:¬ ((p.k≠1/\0<p.t.length)\/(p.k≠7/\p.n≠0))) (D:¬ p.k=1) (E:p.k=0\/p.k=2\/p.k=3\/p.k=4\/p.k=5):bR A st p=some (A,(.leaf p,0)::st):=by
 unfold bR;rw [if_neg h,if_neg D,if_pos E]
theorem aGW {A st} {p:Pc} (h:¬ ((p.k≠1/\0<p.t.length)\/(p.k≠7/\p.n≠0))) (D:p.k=6\/p.k=9):bR A st p=mB A st p:=by
 unfold bR mB;rw [if_neg h,if_neg (by omega),if_neg (by omega),if_pos D];rcases st with _ | ⟨⟨y,E⟩,_ | ⟨⟨x,nx⟩,r⟩⟩<;>rfl
theorem aCv {A st} {p:Pc} (h:¬ ((p.k≠1/\0<p.t.length)\/(p.k≠7/\p.n≠0))) (D:p.k=7\/p.k=8):bR A st p=fF A st p:=by
 unfold bR fF;rw [if_neg h,if_neg (by omega),if_neg (by omega),if_neg (by omega),if_pos D];rcases st with _ | ⟨⟨x,nx⟩,r⟩<;>rfl
theorem aIp {A st} {p:Pc} (h:¬ ((p.k≠1/\0<p.t.length)\/(p.k≠7/\p.n≠0))) (D:p.k<0\/9<p.k):bR A st p=none:=by
 unfold bR;rw [if_neg h,if_neg (by omega),if_neg (by omega),if_neg (by omega),if_neg (by omega)]
theorem aIV (B w bb nv rv G D) (p:Pc) (tv) (hS:Bst B w bb nv rv G (cF G) D) (hv:RdB B w tv p.t) (d7:Sl tv p.t.length) (f6:Bys p.t) (hn:p.t.length<=1048576) (f7:0<=D) (f8:D<=100000) (hB:B<=w.heap.size) (f9:0<B) (hT:Tab w) (hl:G.length<=1048576) (a5:(cF G).length<=1048576) (f2:∀ x∈G,0<=x.n/\x.n<=4000) :
  Calls prog 63 #[.pointer (some ⟨bb,0,none⟩),.agg #[.int .i64 p.k,tv,.int .i64 p.n]] w fun e w'=>gJ B w bb ((cF G).length+1) (bR D (cK G) p) e w':=by
 obtain ⟨ta,g3,a1,g8,h0⟩:=id d7;have hg:w.grownBy (w.alloc (.cells #[.int .i64 p.k,tv,.int .i64 p.n] 88)) none:=gWA;have HS:Hid (Bst B (w.alloc (.cells #[.int .i64 p.k,tv,.int .i64 p.n] 88)) bb nv rv G (cF G) D):=hS.K hg;have J:Hid (Below B w (w.alloc (.cells #[.int .i64 p.k,tv,.int .i64 p.n] 88))):=(Below.refl B w).grown hg hB (fun k e=>by cases e);have HV:Hid (RdB B (w.alloc (.cells #[.int .i64 p.k,tv,.int .i64 p.n] 88)) tv p.t):=hv.K hg;have HT:Hid (Tab (w.alloc (.cells #[.int .i64 p.k,tv,.int .i64 p.n] 88))):=hT.K hg;have g0:Hid (Sl tv p.t.length):=d7;have f0:Hid (∀ x∈G,0<=x.n/\x.n<=4000):=f2;have f1:B<=(w.alloc (.cells #[.int .i64 p.k,tv,.int .i64 p.n] 88)).heap.size:=Nat.le_trans hB hg.size;have a4:=f1;clear hS hv hT d7 hg f2 f1
 by_cases S:(p.k≠1/\0<p.t.length)\/(p.k≠7/\p.n≠0)
 .have HF:Hid (bR D (cK G) p=none):=aL4 S;subst a1
  by_cases b7:p.k≠1/\0<p.t.length
  .obtain ⟨h1,h2⟩:=b7;have e1:(p.k != 1)=true:=(by simpa using h1);clear S h1
   go_enter func63,ntmps63
   go_wp2;go_ret;exact ⟨J.out,by rw [HF.out];rfl⟩
  .have f5:p.k≠7/\p.n≠0:=(by rcases S with h | h;exact absurd h b7;exact h);obtain ⟨h1,h2⟩:=f5;have e7:(p.k != 7)=true:=(by simpa using h1);have e0:(p.n != 0)=true:=by simpa using h2
   by_cases b8:p.k=1
   .have e1:(p.k != 1)=false:=(by rw [b8];rfl);clear S h1 h2 b7 b8
    go_enter func63,ntmps63
    go_wp2;go_ret;exact ⟨J.out,by rw [HF.out];rfl⟩
   .have e1:(p.k != 1)=true:=(by simpa using b8);have N:¬ 0<p.t.length:=fun h=>b7 ⟨b8,h⟩;clear S h1 h2 b7 b8
    go_enter func63,ntmps63
    go_wp2;go_ret;exact ⟨J.out,by rw [HF.out];rfl⟩
 have M:Hid (¬ ((p.k≠1/\0<p.t.length)\/(p.k≠7/\p.n≠0))):=S;have E:p.k≠1->¬ 0<p.t.length:=fun h1 h2=>S (.inl ⟨h1,h2⟩);have I:p.k≠7->p.n=0:=fun h1=>by by_cases h:p.n=0;exact h;exact absurd (.inr ⟨h1,h⟩) S
 clear S
 by_cases A:p.k=1
 .have HF:Hid (bR D (cK G) p=gQ D (cK G) p):=aLf M.out A;have hT:=aBG B _ bb nv rv G D p tv HS.out A HV.out g0.out f6 hn f7 f8 a4 f9 HT.out hl a5;have F:p.n=0:=I (by omega);have en:(p.n != 0)=false:=(by rw [F];rfl);have q0:(p.k==0)=false:=(by rw [A];rfl);have q1:(p.k==1)=true:=(by rw [A];rfl);have q2:(p.k==2)=false:=(by rw [A];rfl);have q3:(p.k==3)=false:=(by rw [A];rfl);have q4:(p.k==4)=false:=(by rw [A];rfl);have q5:(p.k==5)=false:=(by rw [A];rfl);have q6:(p.k==6)=false:=(by rw [A];rfl);have q7:(p.k==7)=false:=(by rw [A];rfl);have q8:(p.k==8)=false:=(by rw [A];rfl);have q9:(p.k==9)=false:=(by rw [A];rfl);have e1:(p.k != 1)=false:=(by rw [A];rfl);have e7:(p.k != 7)=true:=(by rw [A];rfl);clear A E I F;subst a1
  go_enter func63,ntmps63
  go_wp2_with fail
  refine hT.mono ?_;intro e w2 h2;have h3:=gJ.first J.out h2;rw [<- HF.out] at h3;obtain ⟨b3,Z⟩:=h3;cases H:bR D (cK G) p with
  | none=>
    rw [H] at Z;simp only at Z;subst Z;go_wp2;go_ret;exact ⟨b3,by rw [H];rfl⟩
  | some x=>
    rw [H] at Z;obtain ⟨x1,x2⟩:=x;obtain ⟨h5,h6⟩:=Z;subst h5;go_wp2;go_ret;exact ⟨b3,by rw [H];exact ⟨rfl,h6⟩⟩
 have O:=A
 by_cases A:p.k=0
 .have HF:Hid (bR D (cK G) p=some (D,(.leaf p,0)::cK G)):=vR M.out O (by omega);have F:p.n=0:=I (by omega);have en:(p.n != 0)=false:=(by rw [F];rfl);have N:=E (by omega);have hT:=kQ B _ bb nv rv G (cF G) D ⟨.iface 164 (.agg #[]),.leaf p,0,[.iface 164 (.agg #[])]⟩ HS.out (by simp only [Rep];exact .inl ⟨A,trivial⟩) rfl (fun t b e=>by cases e) a4 hl a5;have q0:(p.k==0)=true:=(by rw [A];rfl);have q1:(p.k==1)=false:=(by rw [A];rfl);have q2:(p.k==2)=false:=(by rw [A];rfl);have q3:(p.k==3)=false:=(by rw [A];rfl);have q4:(p.k==4)=false:=(by rw [A];rfl);have q5:(p.k==5)=false:=(by rw [A];rfl);have q6:(p.k==6)=false:=(by rw [A];rfl);have q7:(p.k==7)=false:=(by rw [A];rfl);have q8:(p.k==8)=false:=(by rw [A];rfl);have q9:(p.k==9)=false:=(by rw [A];rfl);have e1:(p.k != 1)=true:=(by rw [A];rfl);have e7:(p.k != 7)=true:=(by rw [A];rfl);clear A E I F O;subst a1
  go_enter func63,ntmps63
  go_wp2_with fail
  refine hT.mono ?_;rintro e w2 ⟨rfl,a8,a6,a7,Y⟩;have b3:=J.out.trans Y.bel;clear Y;go_wp2;go_ret;refine ⟨b3,?_⟩;rw [HF.out];exact ⟨rfl,a8,a6,G++[⟨.iface 164 (.agg #[]),.leaf p,0,[.iface 164 (.agg #[])]⟩],eX _ _,by rw [cX,cY];exact a7,by rw [cX,cY];simp⟩
 by_cases A:p.k=2
 .have HF:Hid (bR D (cK G) p=some (D,(.leaf p,0)::cK G)):=vR M.out O (by omega);have F:p.n=0:=I (by omega);have en:(p.n != 0)=false:=(by rw [F];rfl);have N:=E (by omega);have hT:=kQ B _ bb nv rv G (cF G) D ⟨.iface 165 (.agg #[]),.leaf p,0,[.iface 165 (.agg #[])]⟩ HS.out (by simp only [Rep];exact .inr (.inl ⟨A,trivial⟩)) rfl (fun t b e=>by cases e) a4 hl a5;have q0:(p.k==0)=false:=(by rw [A];rfl);have q1:(p.k==1)=false:=(by rw [A];rfl);have q2:(p.k==2)=true:=(by rw [A];rfl);have q3:(p.k==3)=false:=(by rw [A];rfl);have q4:(p.k==4)=false:=(by rw [A];rfl);have q5:(p.k==5)=false:=(by rw [A];rfl);have q6:(p.k==6)=false:=(by rw [A];rfl);have q7:(p.k==7)=false:=(by rw [A];rfl);have q8:(p.k==8)=false:=(by rw [A];rfl);have q9:(p.k==9)=false:=(by rw [A];rfl);have e1:(p.k != 1)=true:=(by rw [A];rfl);have e7:(p.k != 7)=true:=(by rw [A];rfl);clear A E I F O;subst a1
  go_enter func63,ntmps63
  go_wp2_with fail
  refine hT.mono ?_;rintro e w2 ⟨rfl,a8,a6,a7,Y⟩;have b3:=J.out.trans Y.bel;clear Y;go_wp2;go_ret;refine ⟨b3,?_⟩;rw [HF.out];exact ⟨rfl,a8,a6,G++[⟨.iface 165 (.agg #[]),.leaf p,0,[.iface 165 (.agg #[])]⟩],eX _ _,by rw [cX,cY];exact a7,by rw [cX,cY];simp⟩
 by_cases A:p.k=3
 .have HF:Hid (bR D (cK G) p=some (D,(.leaf p,0)::cK G)):=vR M.out O (by omega);have F:p.n=0:=I (by omega);have en:(p.n != 0)=false:=(by rw [F];rfl);have N:=E (by omega);have hT:=kQ B _ bb nv rv G (cF G) D ⟨.iface 166 (.agg #[]),.leaf p,0,[.iface 166 (.agg #[])]⟩ HS.out (by simp only [Rep];exact .inr (.inr (.inl ⟨A,trivial⟩))) rfl (fun t b e=>by cases e) a4 hl a5;have q0:(p.k==0)=false:=(by rw [A];rfl);have q1:(p.k==1)=false:=(by rw [A];rfl);have q2:(p.k==2)=false:=(by rw [A];rfl);have q3:(p.k==3)=true:=(by rw [A];rfl);have q4:(p.k==4)=false:=(by rw [A];rfl);have q5:(p.k==5)=false:=(by rw [A];rfl);have q6:(p.k==6)=false:=(by rw [A];rfl);have q7:(p.k==7)=false:=(by rw [A];rfl);have q8:(p.k==8)=false:=(by rw [A];rfl);have q9:(p.k==9)=false:=(by rw [A];rfl);have e1:(p.k != 1)=true:=(by rw [A];rfl);have e7:(p.k != 7)=true:=(by rw [A];rfl);clear A E I F O;subst a1
  go_enter func63,ntmps63
  go_wp2_with fail
  refine hT.mono ?_;rintro e w2 ⟨rfl,a8,a6,a7,Y⟩;have b3:=J.out.trans Y.bel;clear Y;go_wp2;go_ret;refine ⟨b3,?_⟩;rw [HF.out];exact ⟨rfl,a8,a6,G++[⟨.iface 166 (.agg #[]),.leaf p,0,[.iface 166 (.agg #[])]⟩],eX _ _,by rw [cX,cY];exact a7,by rw [cX,cY];simp⟩
 by_cases A:p.k=4
 .have HF:Hid (bR D (cK G) p=some (D,(.leaf p,0)::cK G)):=vR M.out O (by omega);have F:p.n=0:=I (by omega);have en:(p.n != 0)=false:=(by rw [F];rfl);have N:=E (by omega);have hT:=kQ B _ bb nv rv G (cF G) D ⟨.iface 167 (.agg #[]),.leaf p,0,[.iface 167 (.agg #[])]⟩ HS.out (by simp only [Rep];exact .inr (.inr (.inr (.inl ⟨A,trivial⟩)))) rfl (fun t b e=>by cases e) a4 hl a5;have q0:(p.k==0)=false:=(by rw [A];rfl);have q1:(p.k==1)=false:=(by rw [A];rfl);have q2:(p.k==2)=false:=(by rw [A];rfl);have q3:(p.k==3)=false:=(by rw [A];rfl);have q4:(p.k==4)=true:=(by rw [A];rfl);have q5:(p.k==5)=false:=(by rw [A];rfl);have q6:(p.k==6)=false:=(by rw [A];rfl);have q7:(p.k==7)=false:=(by rw [A];rfl);have q8:(p.k==8)=false:=(by rw [A];rfl);have q9:(p.k==9)=false:=(by rw [A];rfl);have e1:(p.k != 1)=true:=(by rw [A];rfl);have e7:(p.k != 7)=true:=(by rw [A];rfl);clear A E I F O;subst a1
  go_enter func63,ntmps63
  go_wp2_with fail
  refine hT.mono ?_;rintro e w2 ⟨rfl,a8,a6,a7,Y⟩;have b3:=J.out.trans Y.bel;clear Y;go_wp2;go_ret;refine ⟨b3,?_⟩;rw [HF.out];exact ⟨rfl,a8,a6,G++[⟨.iface 167 (.agg #[]),.leaf p,0,[.iface 167 (.agg #[])]⟩],eX _ _,by rw [cX,cY];exact a7,by rw [cX,cY];simp⟩
 by_cases A:p.k=5
 .have HF:Hid (bR D (cK G) p=some (D,(.leaf p,0)::cK G)):=vR M.out O (by omega);have F:p.n=0:=I (by omega);have en:(p.n != 0)=false:=(by rw [F];rfl);have N:=E (by omega);have hT:=kQ B _ bb nv rv G (cF G) D ⟨.iface 168 (.agg #[]),.leaf p,0,[.iface 168 (.agg #[])]⟩ HS.out (by simp only [Rep];exact .inr (.inr (.inr (.inr (.inl ⟨A,trivial⟩))))) rfl (fun t b e=>by cases e) a4 hl a5;have q0:(p.k==0)=false:=(by rw [A];rfl);have q1:(p.k==1)=false:=(by rw [A];rfl);have q2:(p.k==2)=false:=(by rw [A];rfl);have q3:(p.k==3)=false:=(by rw [A];rfl);have q4:(p.k==4)=false:=(by rw [A];rfl);have q5:(p.k==5)=true:=(by rw [A];rfl);have q6:(p.k==6)=false:=(by rw [A];rfl);have q7:(p.k==7)=false:=(by rw [A];rfl);have q8:(p.k==8)=false:=(by rw [A];rfl);have q9:(p.k==9)=false:=(by rw [A];rfl);have e1:(p.k != 1)=true:=(by rw [A];rfl);have e7:(p.k != 7)=true:=(by rw [A];rfl);clear A E I F O;subst a1
  go_enter func63,ntmps63
  go_wp2_with fail
  refine hT.mono ?_;rintro e w2 ⟨rfl,a8,a6,a7,Y⟩;have b3:=J.out.trans Y.bel;clear Y;go_wp2;go_ret;refine ⟨b3,?_⟩;rw [HF.out];exact ⟨rfl,a8,a6,G++[⟨.iface 168 (.agg #[]),.leaf p,0,[.iface 168 (.agg #[])]⟩],eX _ _,by rw [cX,cY];exact a7,by rw [cX,cY];simp⟩
 by_cases A:p.k=6
 .have HF:Hid (bR D (cK G) p=mB D (cK G) p):=aGW M.out (by omega);have N:=E (by omega);have hT:=wT B _ bb nv rv G D p HS.out (by omega) a4 hl a5;have F:p.n=0:=I (by omega);have en:(p.n != 0)=false:=(by rw [F];rfl);clear F;have q0:(p.k==0)=false:=(by rw [A];rfl);have q1:(p.k==1)=false:=(by rw [A];rfl);have q2:(p.k==2)=false:=(by rw [A];rfl);have q3:(p.k==3)=false:=(by rw [A];rfl);have q4:(p.k==4)=false:=(by rw [A];rfl);have q5:(p.k==5)=false:=(by rw [A];rfl);have q6:(p.k==6)=true:=(by rw [A];rfl);have q7:(p.k==7)=false:=(by rw [A];rfl);have q8:(p.k==8)=false:=(by rw [A];rfl);have q9:(p.k==9)=false:=(by rw [A];rfl);have e1:(p.k != 1)=true:=(by rw [A];rfl);have e7:(p.k != 7)=true:=(by rw [A];rfl);clear A E I O;subst a1
  go_enter func63,ntmps63
  go_wp2_with fail
  refine hT.mono ?_;intro e w2 h2;have h3:=gJ.first J.out h2;rw [<- HF.out] at h3;obtain ⟨b3,Z⟩:=h3;cases H:bR D (cK G) p with
  | none=>
    rw [H] at Z;simp only at Z;subst Z;go_wp2;go_ret;exact ⟨b3,by rw [H];rfl⟩
  | some x=>
    rw [H] at Z;obtain ⟨x1,x2⟩:=x;obtain ⟨h5,h6⟩:=Z;subst h5;go_wp2;go_ret;exact ⟨b3,by rw [H];exact ⟨rfl,h6⟩⟩
 by_cases A:p.k=9
 .have HF:Hid (bR D (cK G) p=mB D (cK G) p):=aGW M.out (by omega);have N:=E (by omega);have hT:=wT B _ bb nv rv G D p HS.out (by omega) a4 hl a5;have F:p.n=0:=I (by omega);have en:(p.n != 0)=false:=(by rw [F];rfl);clear F;have q0:(p.k==0)=false:=(by rw [A];rfl);have q1:(p.k==1)=false:=(by rw [A];rfl);have q2:(p.k==2)=false:=(by rw [A];rfl);have q3:(p.k==3)=false:=(by rw [A];rfl);have q4:(p.k==4)=false:=(by rw [A];rfl);have q5:(p.k==5)=false:=(by rw [A];rfl);have q6:(p.k==6)=false:=(by rw [A];rfl);have q7:(p.k==7)=false:=(by rw [A];rfl);have q8:(p.k==8)=false:=(by rw [A];rfl);have q9:(p.k==9)=true:=(by rw [A];rfl);have e1:(p.k != 1)=true:=(by rw [A];rfl);have e7:(p.k != 7)=true:=(by rw [A];rfl);clear A E I O;subst a1
  go_enter func63,ntmps63
  go_wp2_with fail
  refine hT.mono ?_;intro e w2 h2;have h3:=gJ.first J.out h2;rw [<- HF.out] at h3;obtain ⟨b3,Z⟩:=h3;cases H:bR D (cK G) p with
  | none=>
    rw [H] at Z;simp only at Z;subst Z;go_wp2;go_ret;exact ⟨b3,by rw [H];rfl⟩
  | some x=>
    rw [H] at Z;obtain ⟨x1,x2⟩:=x;obtain ⟨h5,h6⟩:=Z;subst h5;go_wp2;go_ret;exact ⟨b3,by rw [H];exact ⟨rfl,h6⟩⟩
 by_cases A:p.k=7
 .have HF:Hid (bR D (cK G) p=fF D (cK G) p):=aCv M.out (by omega);have N:=E (by omega);have hT:=rM B _ bb nv rv G D p HS.out (.inr A) a4 hl a5 f0.out;have q0:(p.k==0)=false:=(by rw [A];rfl);have q1:(p.k==1)=false:=(by rw [A];rfl);have q2:(p.k==2)=false:=(by rw [A];rfl);have q3:(p.k==3)=false:=(by rw [A];rfl);have q4:(p.k==4)=false:=(by rw [A];rfl);have q5:(p.k==5)=false:=(by rw [A];rfl);have q6:(p.k==6)=false:=(by rw [A];rfl);have q7:(p.k==7)=true:=(by rw [A];rfl);have q8:(p.k==8)=false:=(by rw [A];rfl);have q9:(p.k==9)=false:=(by rw [A];rfl);have e1:(p.k != 1)=true:=(by rw [A];rfl);have e7:(p.k != 7)=false:=(by rw [A];rfl);clear A E I O;subst a1
  go_enter func63,ntmps63
  go_wp2_with fail
  refine hT.mono ?_;intro e w2 h2;have h3:=gJ.first J.out h2;rw [<- HF.out] at h3;obtain ⟨b3,Z⟩:=h3;cases H:bR D (cK G) p with
  | none=>
    rw [H] at Z;simp only at Z;subst Z;go_wp2;go_ret;exact ⟨b3,by rw [H];rfl⟩
  | some x=>
    rw [H] at Z;obtain ⟨x1,x2⟩:=x;obtain ⟨h5,h6⟩:=Z;subst h5;go_wp2;go_ret;exact ⟨b3,by rw [H];exact ⟨rfl,h6⟩⟩
 by_cases A:p.k=8
 .have HF:Hid (bR D (cK G) p=fF D (cK G) p):=aCv M.out (by omega);have N:=E (by omega);have hT:=rM B _ bb nv rv G D p HS.out (.inl ⟨A,I (by omega)⟩) a4 hl a5 f0.out;have F:p.n=0:=I (by omega);have en:(p.n != 0)=false:=(by rw [F];rfl);clear F;have q0:(p.k==0)=false:=(by rw [A];rfl);have q1:(p.k==1)=false:=(by rw [A];rfl);have q2:(p.k==2)=false:=(by rw [A];rfl);have q3:(p.k==3)=false:=(by rw [A];rfl);have q4:(p.k==4)=false:=(by rw [A];rfl);have q5:(p.k==5)=false:=(by rw [A];rfl);have q6:(p.k==6)=false:=(by rw [A];rfl);have q7:(p.k==7)=false:=(by rw [A];rfl);have q8:(p.k==8)=true:=(by rw [A];rfl);have q9:(p.k==9)=false:=(by rw [A];rfl);have e1:(p.k != 1)=true:=(by rw [A];rfl);have e7:(p.k != 7)=true:=(by rw [A];rfl);clear A E I O;subst a1
  go_enter func63,ntmps63
  go_wp2_with fail
  refine hT.mono ?_;intro e w2 h2;have h3:=gJ.first J.out h2;rw [<- HF.out] at h3;obtain ⟨b3,Z⟩:=h3;cases H:bR D (cK G) p with
  | none=>
    rw [H] at Z;simp only at Z;subst Z;go_wp2;go_ret;exact ⟨b3,by rw [H];rfl⟩
  | some x=>
    rw [H] at Z;obtain ⟨x1,x2⟩:=x;obtain ⟨h5,h6⟩:=Z;subst h5;go_wp2;go_ret;exact ⟨b3,by rw [H];exact ⟨rfl,h6⟩⟩
 have d9:p.k<0\/9<p.k:=(by omega);have HF:Hid (bR D (cK G) p=none):=aIp M.out d9;have F:p.n=0:=I (by omega);have en:(p.n != 0)=false:=(by rw [F];rfl);have N:=E (by omega);have q0:(p.k==0)=false:=(by simp;omega);have q1:(p.k==1)=false:=(by simp;omega);have q2:(p.k==2)=false:=(by simp;omega);have q3:(p.k==3)=false:=(by simp;omega);have q4:(p.k==4)=false:=(by simp;omega);have q5:(p.k==5)=false:=(by simp;omega);have q6:(p.k==6)=false:=(by simp;omega);have q7:(p.k==7)=false:=(by simp;omega);have q8:(p.k==8)=false:=(by simp;omega);have q9:(p.k==9)=false:=(by simp;omega);have e1:(p.k != 1)=true:=(by simp;omega);have e7:(p.k != 7)=true:=(by simp;omega);clear d9 E I F O;subst a1
 go_enter func63,ntmps63
 go_wp2;go_ret;exact ⟨J.out,by rw [HF.out];rfl⟩
theorem aLa (A:List Pc) (k:Nat) (E:k<A.length) (D st) (r:Int) (s:List (Tr × Int)) (h:bR D st A[k]=some (r,s)):jX (A.drop k) D st=jX (A.drop (k+1)) r s:=by
 rw [drop_eq_getElem_cons E];simp only [jX,h,Option.bind_some]
theorem aIM (D:List Pc) (k:Nat) (E:k<D.length) (A st) (h:bR A st D[k]=none):jX (D.drop k) A st=none:=by
 rw [drop_eq_getElem_cons E];simp only [jX,h,Option.bind_none]
theorem aK0 {A} (h:aEz (cK A)):∀ x∈A,0<=x.n/\x.n<=4000:=by
 intro x D;have:=h (x.T,x.n) (by simp only [cK,mem_reverse,mem_map];exact ⟨x,D,rfl⟩);exact ⟨this.2.1,this.2.2⟩
theorem aFZ {A} {r:Int} {st} {s:List (Tr × Int)} {p} (h:bR A st p=some (r,s)):s.length<=st.length+1:=by
 unfold bR at h
 split at h
 .cases h
 .split at h
  .split at h
   .cases h
   .split at h
    .cases h
    .cases h;simp
  .split at h
   .cases h;simp
   .split at h
    .split at h
     .cases h;simp
     .cases h
    .split at h
     .split at h
      .split at h
       .cases h
       .cases h;simp
      .cases h
     .cases h
theorem aKt {w:World} (A:Int) (t:TypeId):Bst w.heap.size (w.alloc (.cells #[.slice none 0 0,.slice none 0 0,.int .i64 A] t)) w.heap.size (.slice none 0 0) (.slice none 0 0) [] (cF []) A:=
 ⟨Nat.le_refl _,by simp [go_sem],by simp [go_sem],by simp [go_sem],by simp [go_sem],by simp [go_sem],by simp [go_sem],ownsRow_nil _ _ _ _,ownsRow_nil _ _ _ _,by simp [Value.ownBlock],by simp [Value.ownBlock],fun g h=>by simp [Value.ownBlock] at h,⟨by simp [cF],fun t b h=>by simp [cF] at h⟩,(fun x D=>by cases D),(fun x D=>by cases D)⟩
def aCt (doc:List Pc) (w:World) (e:Ending) (w':World):Prop:=
 Below w.heap.size w w'/\((doc.length<=40000/\∃ T n u nv l,jX doc 100000 []=some [(T,n)]/\e=.returned nv/\l.length=doc.length/\w'.ownsRow w.heap.size 63 1 nv l.length l/\Rep (fun _=>False) w.heap.size w' u T/\cU w' u T l/\lY (fun _=>False) w' l)\/
  (e=.returned (.slice none 0 0)/\(40000<doc.length\/jX doc 100000 []=none\/∃ s,jX doc 100000 []=some s/\s.length≠1)))
theorem rU (v A) (w:World) (hv:RdP w.heap.size w v A) (hd:Doc A) (hT:Tab w) :
  Calls prog 25 #[v] w fun e w'=>aCt A w e w':=by
 obtain ⟨a,f4,b5,g2,g3,_⟩:=id hv;have hl:=hd.len;have a1:=hT.pos
 by_cases h4:A.length > 40000
 .have HF:Hid (40000<A.length):=h4;subst b5;clear hv hT
  go_enter func25,ntmps25
  go_wp2;go_ret;exact ⟨Below.refl _ _,.inr ⟨rfl,.inl HF.out⟩⟩
 subst b5;have HV:Hid (RdP w.heap.size w (.slice a A.length f4) A):=hv;have HT:Hid (Tab w):=hT;have HB:Hid (Bst w.heap.size (w.alloc (.cells #[.slice none 0 0,.slice none 0 0,.int .i64 100000] 118)) w.heap.size (.slice none 0 0) (.slice none 0 0) [] (cF []) 100000):=aKt _ _;clear hv hT
 go_enter func25,ntmps25
 go_wp2
 go_loopw [12] (fun i wr=>∃ (k:Nat) (nv rv:Value) (H:List Mk) (D:Int),k<=A.length/\i=.int .i64 k/\Bst w.heap.size wr w.heap.size nv rv H (cF H) D/\Hid ((cF H).length=k)/\Hid (jX (A.drop k) D (cK H)=jX A 100000 [])/\0<=D/\D<=100000/\aEz (cK H)/\H.length<=k/\Below w.heap.size w wr)
  (fun i _=>A.length - (intOf i).toNat)
 case atStart=>exact ⟨0,_,_,[],100000,Nat.zero_le _,rfl,HB.out,rfl,rfl,by omega,by omega,(fun x hx=>by cases hx),Nat.le_refl _,(Below.refl _ _).alloc (Nat.le_refl _) _⟩
 case round=>
  obtain ⟨k,nv,rv,H,D,hk,rfl,M,HL,HG,b6,d8,E,i0,J⟩:=hrel;have d5:=J.size
  by_cases a0:k<A.length
  .obtain ⟨b,i5,g0,tv,f8,hb,hp⟩:=(HV.out.beside (aC J) (fun _ e=>by cases e)).at k a0;cases f8;have i7:=hp.k;have j1:=hp.t;have i1:=hp.n;have O:=getElem_mem a0;have S:wr.grownBy (wr.alloc (.cells #[.int .i64 A[k].k,tv,.int .i64 A[k].n] 88)) none:=gWA;have F:=aIV w.heap.size _ w.heap.size nv rv H D A[k] tv (M.K S) (hp.rd.K S) hp.sl (hd.bys _ O) (hd.tlen _ O) b6 d8 (by simp;omega) a1 ((HT.out.below J a1).K S) (by omega) (by rw [HL.out];omega) (aK0 E);rw [HL.out] at F;have a4:=aCL D (cK H) A[k] b6 E;have a8:=aLa A k a0 D (cK H);have N:=aIM A k a0 D (cK H);have b2:Hid (Below w.heap.size w (wr.alloc (.cells #[.int .i64 A[k].k,tv,.int .i64 A[k].n] 88))):=J.alloc d5 _;obtain ⟨ta,g5,d2,_,_⟩:=hp.sl;subst d2;clear hp O S E HV HT HB M J HL;generalize A[k]=p at *;cases G:bR D (cK H) p with
   | none=>
     have HF:Hid (jX A 100000 []=none):=(by unfold Hid;rw [<- HG.out];exact N G);rw [G] at F;clear a4 a8 N G HG
     go_wp2_with fail
     refine F.mono ?_;rintro e w1 ⟨b1,I⟩;simp only at I;subst I;go_wp2;go_ret;exact ⟨b2.out.trans b1,.inr ⟨rfl,.inr (.inl HF.out)⟩⟩
   | some x=>
     obtain ⟨r,s⟩:=x;have c9:Hid (jX (A.drop (k+1)) r s=jX A 100000 []):=by unfold Hid;rw [<- HG.out];exact (a8 r s G).symm
     have Z:0<=r/\r<=100000/\aEz s:=by
      rcases a4 with ⟨s',I,h2,h3,h4,h5⟩ | ⟨I,_⟩
      .rw [G] at I;cases I;exact ⟨by omega,by omega,h5⟩
      .rw [G] at I;cases I
     obtain ⟨f1,f2,f3⟩:=Z;have d0:=aFZ G;rw [rT] at d0;have f7:Hid (aEz s):=f3;rw [G] at F;clear a4 a8 N G HG f3
     go_wp2_with fail
     refine F.mono ?_;rintro e w1 ⟨b1,I,f0,d7,Y,h2,h3,h4⟩;subst I;have b3:Y.length<=k+1:=(by rw [<- rT,h2];omega);have H2:Hid (cK Y=s):=h2;have H4:Hid ((cF Y).length=k+1):=h4;clear h2 h4;go_wp2
     go_roundw
     case rel=>exact ⟨k+1,f0,d7,Y,r,by omega,by go_num,h3,H4,by unfold Hid;rw [H2.out];exact c9.out,f1,f2,by rw [H2.out];exact f7.out,b3,b2.out.trans b1⟩
     case measure=>simp [intOf];omega
  .have b7:k=A.length:=(by omega);have HF:Hid (jX A 100000 []=some (cK H)):=(by unfold Hid;rw [<- HG.out,b7];simp [jX]);have c0:=M.c0;have c1:=M.c1;obtain ⟨ra,g7,a5,h9,d6⟩:=aZ M.row;obtain ⟨na,g4,b4,i6,d4⟩:=aZ M.nrow;unfold maxLen at d6 d4
   by_cases I:H.length=1
   .obtain ⟨X,hX⟩:∃ X,H=[X]:=length_eq_one_iff.1 I;subst hX;have a3:=M.rep X (by simp);have HR:Hid (Rep (fun _=>False) w.heap.size wr X.v X.T):=a3.turn (Nat.le_refl _) (fun _ _ _=>rfl) (fun _ _ h=>h.elim) (fun _ _ h=>h);have HP:Hid (cU wr X.v X.T (cF [X])):=(by unfold Hid;rw [cY];exact M.post X (by simp));have HO:Hid (lY (fun _=>False) wr (cF [X])):=M.once.turn (fun _ _ _=>rfl) (fun _ _ h=>h.elim);have HN:Hid (wr.ownsRow w.heap.size 63 1 nv (cF [X]).length (cF [X])):=M.nrow;have a6:Hid (jX A 100000 []=some [(X.T,X.n)]):=(by unfold Hid;rw [HF.out];rfl);have d9:Hid ((cF [X]).length=A.length):=(by unfold Hid;rw [HL.out,b7]);simp only [length_cons,length_nil,Nat.zero_add] at a5;generalize c8:cF [X]=LL at *;subst a5;subst b4;clear M a3 HV HT HB HF HG E I HL c8;go_wp2;go_ret;exact ⟨J,.inl ⟨by omega,X.T,X.n,X.v,_,LL,a6.out,rfl,d9.out,HN.out,HR.out,HP.out,HO.out⟩⟩
   .have e1:((H.length:Int) != 1)=true:=(by simp;omega);have a6:Hid (∃ s,jX A 100000 []=some s/\s.length≠1):=⟨_,HF.out,by rw [rT];exact I⟩;subst a5;clear M HV HT HB HF HG E I HL b4;go_wp2;go_ret;exact ⟨J,.inr ⟨rfl,.inr (.inr a6.out)⟩⟩
theorem cU.last {w} : ∀ {T:Tr} {v:Value} {l:List Value},cU w v T l->∃ D,l=D++[v]
 | .leaf _,v,l,h=>⟨[],by simpa [cU] using h⟩
 | .un _ _,v,l,h=>by
   simp only [cU] at h;obtain ⟨_,_,_,A,_,_,_,_,h⟩:=h;exact ⟨A,h⟩
 | .bin _ _ _,v,l,h=>by
   simp only [cU] at h;obtain ⟨_,_,_,_,A,E,_,_,_,_,_,h⟩:=h;exact ⟨A++E,h⟩
def aE3 (doc:List Pc) (w:World) (e:Ending) (w':World):Prop:=
 Below w.heap.size w w'/\((doc.length<=40000/\∃ T n u,jX doc 100000 []=some [(T,n)]/\e=.returned u/\Rep (fun _=>False) w.heap.size w' u T)\/
  (e=.returned .nilIface/\(40000<doc.length\/jX doc 100000 []=none\/∃ s,jX doc 100000 []=some s/\s.length≠1)))
theorem aFC (v h) (w:World) (Z:RdP w.heap.size w v h) (hd:Doc h) (hT:Tab w) :
  Calls prog 24 #[v] w fun e w'=>aE3 h w e w':=by
 have A:=rU v h w Z hd hT;obtain ⟨a,b0,a3,_⟩:=id Z;subst a3;clear Z hT
 go_enter func24,ntmps24
 go_wp2_with fail
 refine A.mono ?_;rintro e w1 ⟨H,⟨a1,T,n,u,nv,l,hi,rfl,M,D,J,F,_⟩ | ⟨rfl,A⟩⟩
 .obtain ⟨I,O⟩:=F.last;obtain ⟨t,x,E⟩:=J.form;subst O;rcases D.2 with ⟨_,h0⟩ | ⟨g,cp,a8,a0,b6,hg,a2,S,N,Y⟩
  .simp at h0
  .subst a0;have m0:=ownsRow.cellAt D I.length (by simp);rw [getElem?_append_right (Nat.le_refl _)] at m0;simp only [Nat.sub_self,getElem?_cons_zero,E] at m0;have G:(I++[u]).length=I.length+1:=(by simp);unfold maxLen at S;rw [G] at a2 ⊢;have HI:Hid (jX h 100000 []=some [(T,n)]):=hi;have HR:Hid (Rep (fun _=>False) w.heap.size w1 (.iface t x) T):=(by unfold Hid;rw [<- E];exact J);have e0:((I.length:Int)+1==0)=false:=(by simp;omega);clear hi J D hg N Y F G M E A;go_wp2;go_ret;exact ⟨H,.inl ⟨a1,T,n,_,HI.out,rfl,HR.out⟩⟩
 .have HN:Hid (40000<h.length\/jX h 100000 []=none\/∃ s,jX h 100000 []=some s/\s.length≠1):=A;clear A;go_wp2;go_ret;exact ⟨H,.inr ⟨rfl,HN.out⟩⟩
theorem vZ {A w e E} (h:aCt A w e E) :
  Below w.heap.size w E/\((eS A=true/\A.length<=40000/\∃ T u F l,bd A []=some [T]/\Seg A (cI A) T 0 A.length/\e=.returned F/\l.length=A.length/\E.ownsRow w.heap.size 63 1 F l.length l/\Rep (fun _=>False) w.heap.size E u T/\cU E u T l/\lY (fun _=>False) E l)\/(eS A=false/\e=.returned (.slice none 0 0))):=by
 refine ⟨h.1,?_⟩;rcases aAj A with ⟨H,M,T,n,Z,I,N⟩ | ⟨H,M⟩
 .rcases h.2 with ⟨G,S,n',u,F,l,D,J⟩ | ⟨G,D⟩
  .rw [I] at D;cases D;exact .inl ⟨H,G,T,u,F,l,Z,N,J⟩
  .rw [I] at D;rcases D with k | k | ⟨s,k,Y⟩
   .omega
   .cases k
   .cases k;simp at Y
 .rcases h.2 with ⟨G,S,n',u,F,l,D,J⟩ | ⟨G,D⟩
  .rcases M with h | h | ⟨s,h,O⟩
   .omega
   .rw [D] at h;cases h
   .rw [D] at h;cases h;simp at O
  .exact .inr ⟨H,G⟩
theorem aEN {A w e G} (h:aE3 A w e G) :
  Below w.heap.size w G/\((eS A=true/\∃ T u,bd A []=some [T]/\Seg A (cI A) T 0 A.length/\e=.returned u/\Rep (fun _=>False) w.heap.size G u T)\/(eS A=false/\e=.returned .nilIface)):=by
 refine ⟨h.1,?_⟩;rcases aAj A with ⟨F,M,T,n,Z,H,N⟩ | ⟨F,M⟩
 .rcases h.2 with ⟨E,S,n',u,D,J,I⟩ | ⟨E,D⟩
  .rw [H] at D;cases D;exact .inl ⟨F,T,u,Z,N,J,I⟩
  .rw [H] at D;rcases D with k | k | ⟨s,k,Y⟩
   .omega
   .cases k
   .cases k;simp at Y
 .rcases h.2 with ⟨E,S,n',u,D,J,I⟩ | ⟨E,D⟩
  .rcases M with h | h | ⟨s,h,O⟩
   .omega
   .rw [D] at h;cases h
   .rw [D] at h;cases h;simp at O
  .exact .inr ⟨F,E⟩
theorem aBS (v h) (w:World) (F:RdP w.heap.size w v h) (N:Doc h) (J:Tab w) :
  Calls prog 7 #[v] w fun e Z=>e=.returned (.bool (eS h))/\w.grownBy Z none:=by
 have a0:∀ (t:TypeId) (u:Value) (w:World),(binOp .neq 63 (.iface t u) .nilIface).run prog w=.ok (.bool true) w:=fun _ _ _=>rfl;have S:∀ (w:World),(binOp .neq 63 .nilIface .nilIface).run prog w=.ok (.bool false) w:=fun _=>rfl;have E:=aFC v h w F N J;obtain ⟨a,Y,H,_⟩:=id F;subst H;clear F J
 go_enter func7,ntmps7
 go_wp2_with fail
 refine E.mono ?_;intro e w1 G;obtain ⟨A,O⟩:=aEN G;rcases O with ⟨D,T,u,_,_,rfl,M⟩ | ⟨D,rfl⟩
 .have I:Hid (eS h=true):=D;obtain ⟨t,u',rfl⟩:=M.form;clear D M G;go_wp2;go_ret;exact ⟨by rw [I.out];rfl,aC A⟩
 .have I:Hid (eS h=false):=D;clear D G;go_wp2;go_ret;exact ⟨by rw [I.out];rfl,aC A⟩
end Go.Proofs.YtckcaefnokeodaaGreatDoor
