import Derived.Test.YtckcaefnokeodaaGreatDoorMBG
import Derived.Test.YtckcaefnokeodaaGreatDoorMBH
import Derived.Test.YtckcaefnokeodaaGreatDoorMBO
import Derived.Test.YtckcaefnokeodaaGreatDoorMBT
set_option maxHeartbeats 16000000
set_option maxRecDepth 100000
namespace Go.Proofs.YtckcaefnokeodaaGreatDoor
open Go.Proofs.Tryz Go.RowKit List World
theorem aFE {A:List Cm} (h:∀ c∈A,CmB 65 c):zI A:=fun c D=>⟨by have:=(h c D).1;omega,(h c D).2⟩
theorem zZ:∀ {A:List Cm},(∀ c∈A,CmB 65 c)->bY A<=65*A.length
 | [],_=>by simp [bY]
 | c::A,h=>by
   have F:=(h c (by simp)).1;have E:=zZ (fun x D=>h x (by simp [D]):∀ x∈A,CmB 65 x);simp only [bY,length_cons]
   push_cast
   omega
theorem aMX {p:Nod} (h:NdB 65 p):zM p:=⟨⟨by have:=h.L.1;omega,aFE h.L.2⟩,⟨by have:=h.tail.1;omega,aFE h.tail.2⟩,by have:=h.key.1;omega,⟨by have:=h.X.1;omega,h.X.2⟩,by have:=h.U.1;omega⟩
theorem aGn:∀ {D:List Nod},(∀ p∈D,NdB 65 p)->fU D<=9000*D.length/\gK D<=130*D.length
 | [],_=>by simp [fU,gK]
 | p::D,h=>by
   have A:=h p (by simp);obtain ⟨M,O⟩:=aGn (fun x E=>h x (by simp [E]):∀ x∈D,NdB 65 x);have I:=zZ A.L.2;have S:=zZ A.tail.2;have N:=A.L.1;have G:=A.tail.1;have H:=A.key.1;have F:=A.X.1;have J:=A.U.1;simp only [fU,gK,nr,nc,length_cons]
   push_cast
   omega
section
variable {t:Tre}
theorem Tdb.ok (h:Tdb t.N t.tail):aE4 t:=⟨fun p A=>⟨aMX (h.n p A),by have:=(h.n p A).C;constructor<;>omega⟩,by have:=h.l;omega,by have:=h.tl;omega,aFE h.t⟩
theorem Tdb.sum (h:Tdb t.N t.tail):fU t.N+bY t.tail<=100000000/\gK t.N+t.tail.length<=100000000:=by
 obtain ⟨E,F⟩:=aGn h.n;have G:=zZ h.t;have A:=h.l;have D:=h.tl;constructor<;>omega
theorem Tdb.valid (h:Tdb t.N t.tail) (u v:Value) (W:World) (D:eV W.heap.size W u v t):Calls prog 15 #[.agg #[u,v]] W fun e A=>e=.returned (.bool (cZ t))/\W.grownBy A none:=by
 have:=wY u v t W D h.ok h.sum.1 h.sum.2;rw [aCx t h.ok] at this;exact this
theorem Tdb.format (h:Tdb t.N t.tail) (A i:Int) (u v:Value) (W:World) (F:eV W.heap.size W u v t):Calls prog 5 #[.agg #[u,v],.int .i64 A,.int .i64 i] W fun e D=>∃ E,e=.returned (.tuple #[E,.int .i64 (ftR (cZ t) A i t).2])/\RdB D.heap.size D E (ftR (cZ t) A i t).1/\W.grownBy D none:=
 aAw t A i (cZ t) (fun H=>uX t h.ok H) u v W F (fun W G=>h.valid u v W G)
theorem Tdb.doc (h:Tdb t.N t.tail) (i m:Int) (u v:Value) (W:World) (G:eV W.heap.size W u v t) (F:Tab W) (E:W.cell? ⟨1,0,none⟩=some (.int .i64 m)):Calls prog 6 #[.agg #[u,v],.int .i64 i] W fun e D=>∃ A,e=.returned (.tuple #[A,.int .i64 (bdR (cZ t) i t).2])/\RdP D.heap.size D A (bdR (cZ t) i t).1/\W.grownBy D none:=by
 refine (aBX t i m (cZ t) (fun O=>?_) u v W G F E (fun W M F E=>xC u v t m W M h.ok F E)).mono ?_
 .have:=uX t h.ok O;exact ⟨⟨this.d.nd,this.d.ok,fun p H=>(this.d.cn p H).2,this.d.wt⟩,h.ok.t.2,this.wt,this.wk⟩
 .rintro e D ⟨A,rfl,J,I⟩;exact ⟨A,rfl,J.po.pi.rdP,I⟩
structure Chn (t:Tre) (width i:Int) (o met:List Int) (ps:List Pc):Prop where
 ft:ftR (cZ t) width i t=(o,0)
 bd:bdR (cZ t) i t=(ps,0)
 l:o.length<=560140000
 dc:Doc ps
 sv:eS ps=true
 ly:fL ps width=some (o,met)
 rn:lW ps met=some o
 ml:met.length<=1048576
theorem aMN (h:Tdb t.N t.tail) {A i:Int} (I:(ftR (cZ t) A i t).2=0):∃ o D ps,Chn t A i o D ps:=by
 by_cases F:cZ t=true/\(0<=A/\A<=65535)/\0<=i/\i<=16
 .have hF:=uX t h.ok F.1;cases S:eK (eM i t) with
  | true=>unfold ftR at I;rw [if_pos F,if_pos S] at I;simp at I
  | false=>
    have a0:bdR (cZ t) i t=(eM i t,0):=(by unfold bdR;rw [if_pos ⟨F.1,F.2.2⟩,if_neg (by rw [S];simp)]);have Y:ftR (cZ t) A i t=(uI A i t,0):=(by unfold ftR;rw [if_pos F,if_neg (by rw [S];simp)]);obtain ⟨⟨D,J⟩,hd,M⟩:=aJp hF F.2.2.1 F.2.2.2 F.2.1.1 F.2.1.2 S;generalize eM i t=doc at *
    have E:eS doc=true/\0<=A/\A<=65535:=by
     unfold fL at J
     split at J
     .assumption
     .cases J
    rcases aAj doc with ⟨O,_,T,n,Z,_,h5⟩ | ⟨O,_⟩
    .obtain ⟨f1,f2,f3,f4,f5⟩:=yC hd O Z h5
     have hr:iJ A none [⟨T,0,0⟩] [] (replicate (grp doc doc.length) 0) 0=some (uI A i t,D):=by
      have G:=J;unfold fL at G;rw [if_pos E,Z] at G;exact G
     have a6:D.length=grp doc doc.length:=(by have:=iV _ _ _ _ _ _ _ _ _ hr;simpa using this);exact ⟨_,D,doc,Y,a0,M,hd,O,J,aBZ (fun T' H=>by rw [Z] at H;simp at H;subst H;exact ⟨f4,by omega⟩) J,by have:=aIn doc doc.length;have:=hd.len;omega⟩
    .rw [E.1] at O;cases O
 .unfold ftR at I;rw [if_neg F] at I;simp at I
end
theorem aAF {A D:List Int} (k:Nat) (h:A[k]?.getD 0≠D[k]?.getD 0):decide (A=D)=false:=by
 simp only [decide_eq_false_iff_not];intro e;exact h (by rw [e])
theorem aCh (va vb A D) (w:World) (ha:Rd .u8 w.heap.size w va A) (hb:Rd .u8 w.heap.size w vb D) (hn:A.length<=600000000) :
  Calls prog 9 #[va,vb] w fun e w'=>e=.returned (.bool (decide (A=D)))/\∃ m,w'=w.drewN m:=by
 obtain ⟨a,a5,rfl,Y⟩:=ha;obtain ⟨b,a8,rfl,Z⟩:=hb
 by_cases O:A.length=D.length
 .have a2:((A.length:Int) != (D.length:Int))=false:=(by simp [O]);have HL:Hid (A.length=D.length):=O;clear O
  go_enter func9,ntmps9
  go_wp2
  go_loopw [5] (fun i wr=>∃ k m:Nat,k<=A.length/\i=.int .i64 k/\A.take k=D.take k/\wr=w.drewN m)
   (fun i _=>A.length - (intOf i).toNat)
  case atStart=>exact ⟨0,0,Nat.zero_le _,rfl,by simp,rfl⟩
  case round=>
   obtain ⟨k,m,hk,rfl,M,a3⟩:=hrel;subst a3
   by_cases F:k<A.length
   .have E:k<D.length:=(by rw [<- HL.out];exact F);obtain ⟨ba,a4,rfl,b2,a0⟩:=Y (fun h=>by simp [h] at F);obtain ⟨bb,b0,rfl,b6,N⟩:=Z (fun h=>by simp [h] at E);have a1:=a0 k F;have J:=N k E;have H:=dM A k F;have I:=dM D k E;have b1:(k:Int)<(A.length:Int):=(by omega);have b9:(k:Int)<(D.length:Int):=(by omega);clear a0 N Y Z
    by_cases G:A[k]?.getD 0=D[k]?.getD 0
    .have HT:Hid (A.take (k+1)=D.take (k+1)):=(by unfold Hid;rw [H,I,M,G]);clear H I M;rw [<- G] at J;clear G;generalize A[k]?.getD 0=z at a1 J;go_wp2
     go_quiet (fail)
     go_wp2
     go_roundw
     case rel=>exact ⟨k+1,_,by omega,by go_num,HT.out,rfl⟩
     case measure=>simp [intOf];omega
    .have S:Hid (decide (A=D)=false):=aAF k G;generalize A[k]?.getD 0=z at a1 G;generalize D[k]?.getD 0=z2 at J G;clear H I M;have b3:(z != z2)=true:=(by simp [G]);clear G;go_wp2
     go_quiet (fail)
     go_wp2;go_ret;exact ⟨by rw [S.out];rfl,m+nq,by rw [drewN_drewN]⟩
   .have S:Hid (decide (A=D)=true):=by
     unfold Hid;rw [take_of_length_le (by omega),take_of_length_le (by have:=HL.out;omega)] at M;simp [M]
    clear M;go_wp2;go_ret;exact ⟨by rw [S.out];rfl,_,rfl⟩
 .have a2:((A.length:Int) != (D.length:Int))=true:=by simp;omega
  have S:Hid (decide (A=D)=false):=by
   unfold Hid;simp only [decide_eq_false_iff_not];intro e;exact O (by rw [e])
  clear O
  go_enter func9,ntmps9
  go_wp2;go_ret;exact ⟨by rw [S.out];rfl,0,rfl⟩
end Go.Proofs.YtckcaefnokeodaaGreatDoor
