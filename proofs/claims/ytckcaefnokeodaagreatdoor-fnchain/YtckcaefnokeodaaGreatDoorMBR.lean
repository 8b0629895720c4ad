import Derived.Test.YtckcaefnokeodaaGreatDoorMBQ
set_option maxHeartbeats 16000000
set_option maxRecDepth 100000
namespace Go.Proofs.YtckcaefnokeodaaGreatDoor
open Go.Proofs.Tryz Go.RowKit List World
theorem aJ9 (p:Int) (A:0<=p) (D:p<=1114111):Bys (enc p):=by
 intro z h;unfold enc at h
 repeat' split at h
 all_goals simp at h
 all_goals omega
theorem aDT (n:Int) (h:0<=n) (A:n<16):0<=nZ n/\nZ n<=255:=by unfold nZ;split<;>omega
theorem aJt (p:Int) (A:0<=p) (D:p<=1114111):Bys (gG p):=by
 unfold gG
 split
 .intro z h;unfold qU at h
  repeat' split at h
  all_goals simp at h
  all_goals omega
 .split
  .intro z h;have a:=aDT (p / 4096%16) (by omega) (by omega);have b:=aDT (p / 256%16) (by omega) (by omega);have c:=aDT (p / 16%16) (by omega) (by omega);have d:=aDT (p%16) (by omega) (by omega);simp [dN] at h;omega
  .exact aJ9 p A D
theorem aHd (E):Bys (quR E).1:=by
 unfold quR
 split
 .rename_i h
  intro z A;simp only [cons_append,mem_cons,mem_append,not_mem_nil,or_false] at A;rcases A with rfl | A | rfl
  .omega
  .unfold kA at A;obtain ⟨p,F,A⟩:=mem_flatMap.1 A;have D:=aHZ E h p F;exact aJt p D.1 D.2 z A
  .omega
 .intro z A;simp at A
theorem aJZ (A):Bys (iT A):=by
 unfold iT
 split
 .rename_i h
  intro z D;have:=(aAS z (aBk A h z D)).2;omega
 .exact aHd A
theorem rG (v h w) (Z:Tab w) (D:RdI w.heap.size w v h) (O:h.length<=1048576) :
  Calls prog 98 #[v] w fun e Y=>e=.returned (.string (strOfNums (quR h).1))/\w.grownBy Y none:=by
 have M:=aB (aBI v h w Z D O);obtain ⟨a,S,H,_⟩:=id D;subst H;clear D
 go_enter func98,ntmps98
 go_wp2_with fail
 refine M.out.mono ?_;rintro e w1 ⟨v1,rfl,I,J⟩;have A:=qF I.rd;obtain ⟨a1,c1,E,_,_⟩:=I.sl;have G:=aB J;generalize N:(quR h).1=qs at *;have F:=aB N;subst E;clear M I J N;go_wp2;go_ret;exact ⟨by rw [F.out];rfl,G.out⟩
theorem aIK (h:List Int):(strOfNums (34::h++[34])).extract 1 (h.length+1)=strOfNums h:=by
 apply ByteArray.ext;apply Array.toList_inj.1;rw [Lib.extract_data,strOfNums_data,strOfNums_data];simp
theorem aD3 (v h w) (hT:Tab w) (D:RdI w.heap.size w v h) (N:h.length<=1048576) :
  Calls prog 100 #[v] w fun e w'=>e=.returned (.string (strOfNums (iT h)))/\w.grownBy w' none:=by
 have M:=aB (rG v h w hT D N);have J:Hid (∀ W:World,w.grownBy W none->_):=fun W (g:w.grownBy W none)=>aAs v h W ((D.K g).wideC g.size) (by omega);obtain ⟨a,S,H,_⟩:=id D;subst H;clear D
 go_enter func100,ntmps100
 go_wp2_with fail
 refine M.out.mono ?_;rintro e Y ⟨rfl,E⟩;have A:=aB (J.out Y E);have G:=aB E;clear M J E
 go_wp2_with fail
 refine A.out.mono ?_;rintro e w2 ⟨rfl,rfl⟩;clear A;cases I:nmR h with
 | false=>
   have F:=aB (show iT h=(quR h).1 by unfold iT;rw [I];rfl);go_wp2;go_ret;exact ⟨by rw [F.out];rfl,G.out⟩
 | true=>
   have F:=aB (show iT h=h by unfold iT;rw [I];rfl);have O:=aIK h;rw [aK1 h I];have Z:(strOfNums (34::h++[34])).size=h.length+2:=(by rw [strOfNums_size];simp);simp only;generalize strOfNums (34::h++[34])=qs at *;go_wp2;go_ret;refine ⟨?_,G.out⟩;rw [F.out,<- O];rfl
section
attribute [-go_sem] Builtin.append_
theorem jY (W:World) (b o:Nat) (x:Value) (f:Fn) (p c:Array Value) (h:W.cell? ⟨b,o,none⟩=some x) (A:W.frozen? ⟨b,o,none⟩=false):(store ⟨b,o,none⟩ (.func f p c)).run prog W=.ok () (W.setCell ⟨b,o,none⟩ (.func f p c)):=by
 rw [run_store prog W _ _ _ rfl,h];simp [A]
abbrev aL1:List Int:=[110,117,108,108]
abbrev aLT:List Int:=[116,114,117,101]
abbrev aMs:List Int:=[102,97,108,115,101]
structure Shp (w:World) (bs:Nat) (nv:Value) (ind:Int):Prop where
 sz:bs+3<w.heap.size
 n:w.cell? ⟨bs,0,none⟩=some nv
 fz:w.frozen? ⟨bs,0,none⟩=false
 i:w.cell? ⟨bs,1,none⟩=some (.int .i64 ind)
 v0:w.cell? ⟨bs,2,none⟩=some (.func (.func 96) #[] #[.pointer (some ⟨bs+1,0,none⟩)])/\w.cell? ⟨bs+1,0,none⟩=some (.string (strOfNums aL1))
 v1:w.cell? ⟨bs,3,none⟩=some (.func (.func 96) #[] #[.pointer (some ⟨bs+2,0,none⟩)])/\w.cell? ⟨bs+2,0,none⟩=some (.string (strOfNums aLT))
 v2:w.cell? ⟨bs,4,none⟩=some (.func (.func 96) #[] #[.pointer (some ⟨bs+3,0,none⟩)])/\w.cell? ⟨bs+3,0,none⟩=some (.string (strOfNums aMs))
 v3:w.cell? ⟨bs,5,none⟩=some (.func (.func 55) #[] #[])
 v4:w.cell? ⟨bs,6,none⟩=some (.func (.func 56) #[] #[])
 v5:w.cell? ⟨bs,7,none⟩=some (.func (.func 57) #[.pointer (some ⟨bs,0,none⟩)] #[])
 v6:w.cell? ⟨bs,8,none⟩=some (.func (.func 58) #[.pointer (some ⟨bs,0,none⟩)] #[])
theorem Shp.K {w w' D E A} (h:Shp w D E A) (g:w.grownBy w' none):Shp w' D E A:=
 ⟨Nat.lt_of_lt_of_le h.sz g.size,g.cell h.n (by simp),by rw [frozen?_of_block (g.block D (block_lt_of_cell? w _ h.n) (by simp))];exact h.fz,g.cell h.i (by simp),⟨g.cell h.v0.1 (by simp),g.cell h.v0.2 (by simp)⟩,⟨g.cell h.v1.1 (by simp),g.cell h.v1.2 (by simp)⟩,⟨g.cell h.v2.1 (by simp),g.cell h.v2.2 (by simp)⟩,g.cell h.v3 (by simp),g.cell h.v4 (by simp),g.cell h.v5 (by simp),g.cell h.v6 (by simp)⟩
theorem Shp.turn {w E F D} (h:Shp w E F D) (A):Shp (w.setCell ⟨E,0,none⟩ A) E A D:=by
 have c:∀ b j,(b≠E\/j≠0)->(w.setCell ⟨E,0,none⟩ A).cell? ⟨b,j,none⟩=w.cell? ⟨b,j,none⟩:=fun b j I=>cell?_setCell_other _ _ _ _ (by intro e;have G:=congrArg Addr.block e;have H:=congrArg Addr.off e;simp only at G H;omega);refine ⟨by simpa using h.sz,by have:=h.n;simp [go_sem,this],by simpa using h.fz,by rw [c _ _ (.inr (by omega))];exact h.i,⟨by rw [c _ _ (.inr (by omega))];exact h.v0.1,by rw [c _ _ (.inl (by omega))];exact h.v0.2⟩,⟨by rw [c _ _ (.inr (by omega))];exact h.v1.1,by rw [c _ _ (.inl (by omega))];exact h.v1.2⟩,⟨by rw [c _ _ (.inr (by omega))];exact h.v2.1,by rw [c _ _ (.inl (by omega))];exact h.v2.2⟩,by rw [c _ _ (.inr (by omega))];exact h.v3,by rw [c _ _ (.inr (by omega))];exact h.v4,by rw [c _ _ (.inr (by omega))];exact h.v5,by rw [c _ _ (.inr (by omega))];exact h.v6⟩
theorem aBT (a:Option Addr) (L Y:Nat) (S:Int) (w) :
  Calls prog 22 #[.slice a L Y,.int .i64 S] w fun e w'=>e=.returned (.pointer (some ⟨w.heap.size,0,none⟩))/\Shp w' w.heap.size (.slice a L Y) S/\w.grownBy w' none:=by
 obtain ⟨N,F⟩:∃ N,N=(((w.alloc (Obj.cells #[.slice a L Y,.int .i64 S,.nilFunc,.nilFunc,.nilFunc,.nilFunc,.nilFunc,.nilFunc,.nilFunc] 109)).alloc (Obj.cells #[.string { data:=#[110,117,108,108] }] 9)).alloc (Obj.cells #[.string { data:=#[116,114,117,101] }] 9)).alloc (Obj.cells #[.string { data:=#[102,97,108,115,101] }] 9):=⟨_,rfl⟩;have Z:∀ j,N.frozen? ⟨w.heap.size,j,none⟩=false:=fun j=>by rw [F];simp [go_sem]
 have hg:w.grownBy N none:=(by rw [F];exact aA (aA (aA gWA gWA) gWA) gWA);have q0:N.cell? ⟨w.heap.size,0,none⟩=some (.slice a L Y):=(by rw [F];simp [go_sem]);have q1:N.cell? ⟨w.heap.size,1,none⟩=some (.int .i64 S):=(by rw [F];simp [go_sem]);have q2:N.cell? ⟨w.heap.size,2,none⟩=some .nilFunc:=(by rw [F];simp [go_sem]);have q3:N.cell? ⟨w.heap.size,3,none⟩=some .nilFunc:=(by rw [F];simp [go_sem]);have q4:N.cell? ⟨w.heap.size,4,none⟩=some .nilFunc:=(by rw [F];simp [go_sem]);have q5:N.cell? ⟨w.heap.size,5,none⟩=some .nilFunc:=(by rw [F];simp [go_sem]);have q6:N.cell? ⟨w.heap.size,6,none⟩=some .nilFunc:=(by rw [F];simp [go_sem]);have q7:N.cell? ⟨w.heap.size,7,none⟩=some .nilFunc:=(by rw [F];simp [go_sem]);have q8:N.cell? ⟨w.heap.size,8,none⟩=some .nilFunc:=(by rw [F];simp [go_sem]);have t0:N.cell? ⟨w.heap.size+1,0,none⟩=some (.string { data:=#[110,117,108,108] }):=(by rw [F];simp [go_sem]);have t1:N.cell? ⟨w.heap.size+1+1,0,none⟩=some (.string { data:=#[116,114,117,101] }):=(by rw [F];simp [go_sem]);have t2:N.cell? ⟨w.heap.size+1+1+1,0,none⟩=some (.string { data:=#[102,97,108,115,101] }):=(by rw [F];simp [go_sem]);obtain ⟨W1,D⟩:∃ W1,W1=N.setCell ⟨w.heap.size,2,none⟩ (.func (.func 96) #[] #[.pointer (some ⟨w.heap.size+1,0,none⟩)]):=⟨_,rfl⟩;have e1:(store ⟨w.heap.size,2,none⟩ (.func (.func 96) #[] #[.pointer (some ⟨w.heap.size+1,0,none⟩)])).run prog N=.ok () W1:=(by rw [D];exact jY N _ _ _ _ _ _ q2 (Z 2));obtain ⟨W2,E⟩:∃ W2,W2=W1.setCell ⟨w.heap.size,3,none⟩ (.func (.func 96) #[] #[.pointer (some ⟨w.heap.size+1+1,0,none⟩)]):=⟨_,rfl⟩;have p2:W1.cell? ⟨w.heap.size,3,none⟩=some .nilFunc:=(by rw [D,cell?_setCell_other _ _ _ _ (by intro e;have A:=congrArg Addr.off e;simp only at A;omega)];exact q3);have e2:(store ⟨w.heap.size,3,none⟩ (.func (.func 96) #[] #[.pointer (some ⟨w.heap.size+1+1,0,none⟩)])).run prog W1=.ok () W2:=(by rw [E];exact jY W1 _ _ _ _ _ _ p2 (by rw [D];simpa using Z 3));obtain ⟨W3,G⟩:∃ W3,W3=W2.setCell ⟨w.heap.size,4,none⟩ (.func (.func 96) #[] #[.pointer (some ⟨w.heap.size+1+1+1,0,none⟩)]):=⟨_,rfl⟩;have p3:W2.cell? ⟨w.heap.size,4,none⟩=some .nilFunc:=(by rw [E,cell?_setCell_other _ _ _ _ (by intro e;have A:=congrArg Addr.off e;simp only at A;omega)];rw [D,cell?_setCell_other _ _ _ _ (by intro e;have A:=congrArg Addr.off e;simp only at A;omega)];exact q4);have e3:(store ⟨w.heap.size,4,none⟩ (.func (.func 96) #[] #[.pointer (some ⟨w.heap.size+1+1+1,0,none⟩)])).run prog W2=.ok () W3:=(by rw [G];exact jY W2 _ _ _ _ _ _ p3 (by rw [E,D];simpa using Z 4));obtain ⟨W4,H⟩:∃ W4,W4=W3.setCell ⟨w.heap.size,5,none⟩ (.func (.func 55) #[] #[]):=⟨_,rfl⟩;have p4:W3.cell? ⟨w.heap.size,5,none⟩=some .nilFunc:=(by rw [G,cell?_setCell_other _ _ _ _ (by intro e;have A:=congrArg Addr.off e;simp only at A;omega)];rw [E,cell?_setCell_other _ _ _ _ (by intro e;have A:=congrArg Addr.off e;simp only at A;omega)];rw [D,cell?_setCell_other _ _ _ _ (by intro e;have A:=congrArg Addr.off e;simp only at A;omega)];exact q5);have e4:(store ⟨w.heap.size,5,none⟩ (.func (.func 55) #[] #[])).run prog W3=.ok () W4:=(by rw [H];exact jY W3 _ _ _ _ _ _ p4 (by rw [G,E,D];simpa using Z 5));obtain ⟨W5,I⟩:∃ W5,W5=W4.setCell ⟨w.heap.size,6,none⟩ (.func (.func 56) #[] #[]):=⟨_,rfl⟩;have p5:W4.cell? ⟨w.heap.size,6,none⟩=some .nilFunc:=(by rw [H,cell?_setCell_other _ _ _ _ (by intro e;have A:=congrArg Addr.off e;simp only at A;omega)];rw [G,cell?_setCell_other _ _ _ _ (by intro e;have A:=congrArg Addr.off e;simp only at A;omega)];rw [E,cell?_setCell_other _ _ _ _ (by intro e;have A:=congrArg Addr.off e;simp only at A;omega)];rw [D,cell?_setCell_other _ _ _ _ (by intro e;have A:=congrArg Addr.off e;simp only at A;omega)];exact q6);have e5:(store ⟨w.heap.size,6,none⟩ (.func (.func 56) #[] #[])).run prog W4=.ok () W5:=(by rw [I];exact jY W4 _ _ _ _ _ _ p5 (by rw [H,G,E,D];simpa using Z 6));obtain ⟨W6,J⟩:∃ W6,W6=W5.setCell ⟨w.heap.size,7,none⟩ (.func (.func 57) #[.pointer (some ⟨w.heap.size,0,none⟩)] #[]):=⟨_,rfl⟩;have p6:W5.cell? ⟨w.heap.size,7,none⟩=some .nilFunc:=(by rw [I,cell?_setCell_other _ _ _ _ (by intro e;have A:=congrArg Addr.off e;simp only at A;omega)];rw [H,cell?_setCell_other _ _ _ _ (by intro e;have A:=congrArg Addr.off e;simp only at A;omega)];rw [G,cell?_setCell_other _ _ _ _ (by intro e;have A:=congrArg Addr.off e;simp only at A;omega)];rw [E,cell?_setCell_other _ _ _ _ (by intro e;have A:=congrArg Addr.off e;simp only at A;omega)];rw [D,cell?_setCell_other _ _ _ _ (by intro e;have A:=congrArg Addr.off e;simp only at A;omega)];exact q7);have e6:(store ⟨w.heap.size,7,none⟩ (.func (.func 57) #[.pointer (some ⟨w.heap.size,0,none⟩)] #[])).run prog W5=.ok () W6:=(by rw [J];exact jY W5 _ _ _ _ _ _ p6 (by rw [I,H,G,E,D];simpa using Z 7));obtain ⟨W7,M⟩:∃ W7,W7=W6.setCell ⟨w.heap.size,8,none⟩ (.func (.func 58) #[.pointer (some ⟨w.heap.size,0,none⟩)] #[]):=⟨_,rfl⟩;have p7:W6.cell? ⟨w.heap.size,8,none⟩=some .nilFunc:=(by rw [J,cell?_setCell_other _ _ _ _ (by intro e;have A:=congrArg Addr.off e;simp only at A;omega)];rw [I,cell?_setCell_other _ _ _ _ (by intro e;have A:=congrArg Addr.off e;simp only at A;omega)];rw [H,cell?_setCell_other _ _ _ _ (by intro e;have A:=congrArg Addr.off e;simp only at A;omega)];rw [G,cell?_setCell_other _ _ _ _ (by intro e;have A:=congrArg Addr.off e;simp only at A;omega)];rw [E,cell?_setCell_other _ _ _ _ (by intro e;have A:=congrArg Addr.off e;simp only at A;omega)];rw [D,cell?_setCell_other _ _ _ _ (by intro e;have A:=congrArg Addr.off e;simp only at A;omega)];exact q8);have e7:(store ⟨w.heap.size,8,none⟩ (.func (.func 58) #[.pointer (some ⟨w.heap.size,0,none⟩)] #[])).run prog W6=.ok () W7:=by rw [M];exact jY W6 _ _ _ _ _ _ p7 (by rw [J,I,H,G,E,D];simpa using Z 8)
 have O:∀ b j,(b≠w.heap.size\/j<2)->W7.cell? ⟨b,j,none⟩=N.cell? ⟨b,j,none⟩:=fun b j hj=>by
  rw [M,J,I,H,G,E,D];have ne:∀ (U:World) (o:Nat) (x:Value),2<=o->(U.setCell ⟨w.heap.size,o,none⟩ x).cell? ⟨b,j,none⟩=U.cell? ⟨b,j,none⟩:=fun U o x ho=>cell?_setCell_other _ _ _ _ (by intro e;have h1:=congrArg Addr.block e;have A:=congrArg Addr.off e;simp only at h1 A;omega);rw [ne _ _ _ (by omega),ne _ _ _ (by omega),ne _ _ _ (by omega),ne _ _ _ (by omega),ne _ _ _ (by omega),ne _ _ _ (by omega),ne _ _ _ (by omega)]
 have h:∀ (U:World) (o o':Nat) (x:Value),o≠o'->(U.setCell ⟨w.heap.size,o,none⟩ x).cell? ⟨w.heap.size,o',none⟩=U.cell? ⟨w.heap.size,o',none⟩:=fun U o o' x ho=>cell?_setCell_other _ _ _ _ (by intro e;have A:=congrArg Addr.off e;simp only at A;omega)
 have b3:Hid (Shp W7 w.heap.size (.slice a L Y) S):=by
  refine ⟨by rw [M,J,I,H,G,E,D,F];simp,by rw [O _ _ (.inr (by omega))];exact q0,by rw [M,J,I,H,G,E,D];simpa using Z 0,by rw [O _ _ (.inr (by omega))];exact q1,⟨?_,by rw [O _ _ (.inl (by omega))];exact t0⟩,⟨?_,by rw [O _ _ (.inl (by omega))];exact t1⟩,⟨?_,by rw [O _ _ (.inl (by omega))];exact t2⟩,?_,?_,?_,?_⟩
  .rw [M,h _ _ _ _ (by omega),J,h _ _ _ _ (by omega),I,h _ _ _ _ (by omega),H,h _ _ _ _ (by omega),G,h _ _ _ _ (by omega),E,h _ _ _ _ (by omega),D];simp [go_sem,q2]
  .rw [M,h _ _ _ _ (by omega),J,h _ _ _ _ (by omega),I,h _ _ _ _ (by omega),H,h _ _ _ _ (by omega),G,h _ _ _ _ (by omega),E];simp [go_sem,p2]
  .rw [M,h _ _ _ _ (by omega),J,h _ _ _ _ (by omega),I,h _ _ _ _ (by omega),H,h _ _ _ _ (by omega),G];simp [go_sem,p3]
  .rw [M,h _ _ _ _ (by omega),J,h _ _ _ _ (by omega),I,h _ _ _ _ (by omega),H];simp [go_sem,p4]
  .rw [M,h _ _ _ _ (by omega),J,h _ _ _ _ (by omega),I];simp [go_sem,p5]
  .rw [M,h _ _ _ _ (by omega),J];simp [go_sem,p6]
  .rw [M];simp [go_sem,p7]
 have b6:Hid (w.grownBy W7 none):=by
  have hB:=(aV hg);unfold Hid;rw [M,J,I,H,G,E,D];exact aC (((((((hB.setCell (by simp) _).setCell (by simp) _).setCell (by simp) _).setCell (by simp) _).setCell (by simp) _).setCell (by simp) _).setCell (by simp) _)
 rw [F] at e1;clear O h M J I H G E D q0 q1 q2 q3 q4 q5 q6 q7 q8 t0 t1 t2 Z hg p2 p3 p4 p5 p6 p7 F
 go_enter func22,ntmps22
 go_wp2;go_ret;exact ⟨rfl,b3.out,b6.out⟩
def nV (w:World) (ps:List Pc) (e:Ending) (w':World):Prop:=∃ f caps,e=.returned (.func (.func f) #[] caps)/\bU w' (fun k=>w.heap.size<=k/\k<w'.heap.size) f caps ps/\w.grownBy w' none
theorem nV.from {w:World} {G F e E} (h:nV G F e E) (g:w.grownBy G none):nV w F e E:=by
 obtain ⟨f,A,I,H,J⟩:=h;exact ⟨f,A,I,H.at (fun k D=>⟨Nat.le_trans g.size D.1,D.2⟩) (fun _ _=>rfl),aA g J⟩
theorem tZ (p:Nod) (lv G O J M) (b:Nat) (h) (hb:Bys h) (hn:h.length<=1000) (w:World) (F:w.cell? ⟨b,0,none⟩=some (.string (strOfNums h))) (sl:Sl lv p.L.length) (sk:Sl G p.key.length) (sx:Sl O p.X.length) (su:Sl J p.U.length) (st:Sl M p.tail.length) :
  Calls prog 96 #[.agg #[.int .i64 p.k,lv,.bool p.mem,G,O,J,.int .i64 p.C,M],.pointer (some ⟨b,0,none⟩)] w fun e w'=>nV w (aI h) e w':=by
 obtain ⟨la,lc,rfl,_⟩:=sl;obtain ⟨ka,kc,rfl,_⟩:=sk;obtain ⟨S,Z,rfl,_⟩:=sx;obtain ⟨ua,uc,rfl,_⟩:=su;obtain ⟨ta,tc,rfl,_⟩:=st;obtain ⟨W,H⟩:∃ W,W=w.alloc (Obj.cells #[.int .i64 p.k,.slice la p.L.length lc,.bool p.mem,.slice ka p.key.length kc,.slice S p.X.length Z,.slice ua p.U.length uc,.int .i64 p.C,.slice ta p.tail.length tc] 49):=⟨_,rfl⟩;have E:w.grownBy W none:=(by rw [H];exact gWA);have N:=aB (cN h hb (by omega) W);have D:=E.cell F (by simp);have Y:=aB E;subst H;clear E F
 go_enter func96,ntmps96
 go_wp2_with fail
 refine N.out.mono ?_;rintro e w1 ⟨f,A,rfl,I,g⟩;have HP:=aB (show nV _ (aI h) _ w1 from ⟨f,A,rfl,I,g⟩);clear N I g D;go_wp2;go_ret;exact HP.out.from Y.out
theorem aFv (p:Nod) (lv F E J M) (w:World) (I:RdB w.heap.size w E p.X) (sx:Sl E p.X.length) (hb:Bys p.X) (hn:p.X.length<=1048576) (Z:Sl lv p.L.length) (sk:Sl F p.key.length) (su:Sl J p.U.length) (st:Sl M p.tail.length) :
  Calls prog 55 #[.agg #[.int .i64 p.k,lv,.bool p.mem,F,E,J,.int .i64 p.C,M]] w fun e w'=>nV w (aI p.X) e w':=by
 obtain ⟨la,lc,rfl,_⟩:=Z;obtain ⟨ka,kc,rfl,_⟩:=sk;obtain ⟨O,Y,rfl,_⟩:=sx;obtain ⟨ua,uc,rfl,_⟩:=su;obtain ⟨ta,tc,rfl,_⟩:=st;obtain ⟨W,G⟩:∃ W,W=w.alloc (Obj.cells #[.int .i64 p.k,.slice la p.L.length lc,.bool p.mem,.slice ka p.key.length kc,.slice O p.X.length Y,.slice ua p.U.length uc,.int .i64 p.C,.slice ta p.tail.length tc] 49):=⟨_,rfl⟩;have D:w.grownBy W none:=(by rw [G];exact gWA);have h:=qF (I.K D);have N:=aB (cN p.X hb (by omega) W);have S:=aB D;subst G;clear I D
 go_enter func55,ntmps55
 go_wp2_with fail
 refine N.out.mono ?_;rintro e w1 ⟨f,A,rfl,H,g⟩;have HP:=aB (show nV _ (aI p.X) _ w1 from ⟨f,A,rfl,H,g⟩);clear N H g h;go_wp2;go_ret;exact HP.out.from S.out
theorem aFN (p:Nod) (lv E Y D N w) (hT:Tab w) (F:RdI w.heap.size w D p.U) (su:Sl D p.U.length) (hn:p.U.length<=1048576) (sl:Sl lv p.L.length) (sk:Sl E p.key.length) (sx:Sl Y p.X.length) (st:Sl N p.tail.length) :
  Calls prog 56 #[.agg #[.int .i64 p.k,lv,.bool p.mem,E,Y,D,.int .i64 p.C,N]] w fun e w'=>nV w (aI (quR p.U).1) e w':=by
 obtain ⟨la,lc,rfl,_⟩:=sl;obtain ⟨ka,kc,rfl,_⟩:=sk;obtain ⟨xa,xc,rfl,_⟩:=sx;obtain ⟨J,S,rfl,_⟩:=su;obtain ⟨ta,tc,rfl,_⟩:=st;obtain ⟨W,H⟩:∃ W,W=w.alloc (Obj.cells #[.int .i64 p.k,.slice la p.L.length lc,.bool p.mem,.slice ka p.key.length kc,.slice xa p.X.length xc,.slice J p.U.length S,.int .i64 p.C,.slice ta p.tail.length tc] 49):=⟨_,rfl⟩;have A:w.grownBy W none:=(by rw [H];exact gWA);have M:=aB (rG (.slice J p.U.length S) p.U W (hT.K A) ((F.K A).wideC A.size) hn);have b6:=aD1 p.U;have O:Hid (∀ W:World,_):=fun W=>cN (quR p.U).1 (aHd _) (by omega) W;have HG:=aB A;subst H;clear F A
 go_enter func56,ntmps56
 go_wp2_with fail
 refine M.out.mono ?_;rintro e Z ⟨rfl,G⟩;have G1:=aB (aA HG.out G);clear M G
 go_wp2_with fail
 refine (O.out Z).mono ?_;rintro e w2 ⟨f,h,rfl,I,g⟩;have HP:=aB (show nV Z (aI (quR p.U).1) _ w2 from ⟨f,h,rfl,I,g⟩);clear O I g;go_wp2;go_ret;exact HP.out.from G1.out
theorem aKu {w} {F:Nat->Prop} {f A G} (h:bU w F f A G) (H:∀ k,F k->k<w.heap.size) :
  PaR (w.alloc (Obj.cells #[.func (.func f) #[] A] 57)) (fun k=>F k\/k=w.heap.size) (.slice (some ⟨w.heap.size,0,none⟩) 1 1) [G]:=by
 have I:=grownBy_alloc w (Obj.cells #[.func (.func f) #[] A] 57) none;refine ⟨_,1,rfl,Nat.le_refl _,by unfold maxLen;omega,fun _=>⟨w.heap.size,0,rfl,.inr rfl,by simp,fun j d D=>?_⟩⟩
 match j,D with
 | 0,D=>simp at D;subst D;exact ⟨f,A,by simp [go_sem],h.at (fun k E=>.inl E) (fun k E=>I.block k (H k E) (by simp))⟩
 | j+1,D=>simp at D
theorem aED (bs nv D v G) (F:Nat->Prop) (w) (hs:Shp w bs nv D) (hp:PaR w F v G) (hF:∀ k,F k->k<w.heap.size) (hl:G.length<=1000000000) :
  Calls prog 138 #[.pointer (some ⟨bs,0,none⟩),v] w fun e w'=>∃ f A,e=.returned (.func (.func f) #[] A)/\bU w' (fun k=>F k\/(w.heap.size<=k/\k<w'.heap.size)) f A (iE D G)/\w.grownBy w' none:=by
 have HR:Hid (∀ W:World,w.grownBy W none->_):=fun W (g:w.grownBy W none)=>sN v G F W (hp.at (fun _ h=>h) g.size (fun k h=>g.block k (hF k h) (by simp))) (fun k h=>Nat.lt_of_lt_of_le (hF k h) g.size) hl;have ci:=hs.i;obtain ⟨a,b7,hv,_,_⟩:=hp.sl;subst hv;clear hp hs
 go_enter func138,ntmps138
 obtain ⟨I,hI⟩:∃ I:World->Prop,I=(fun W:World=>W.cell? ⟨bs,1,none⟩=some (.int .i64 D)):=⟨_,rfl⟩;have E:I w.drew:=(by rw [hI];exact ci);have gd:w.grownBy w.drew none:=⟨rfl,rfl,rfl,Nat.le_refl _,fun _ _ _=>rfl⟩;have M:∀ (U U':World),I U->U.grownBy U' none->I U':=fun U U' h g=>by rw [hI] at h ⊢;exact g.cell h (by simp)
 go_wp2;refine aW I (fun _=>false) (by kernel_rfl) ?_
 show fK _ _ _ _ _ _ 10 (Array.replicate 10 false) _ _
 refine bG (i:=0) (.pointer (some ⟨bs,0,none⟩)) rfl E (bI rfl (fun W O=>by go_simp)) ?_;refine bG (i:=1) (.pointer (some ⟨bs,0,none⟩)) rfl E (bI rfl (fun W O=>by go_simp)) ?_;refine bG (i:=2) (.pointer (some ⟨bs,1,none⟩)) rfl E (bI rfl (fun W O=>by go_simp)) ?_;refine bG (i:=3) (.int .i64 D) rfl E (bI rfl (fun W O=>by rw [hI] at O;have h1:=O;go_simp)) ?_;refine bG (i:=4) (.agg #[.int .i64 7,.slice none 0 0,.int .i64 D]) rfl E (bI rfl (fun W O=>by go_simp)) ?_;refine bG (i:=5) (.slice a G.length b7) rfl E (bI rfl (fun W O=>by go_simp)) ?_;generalize hG:Act.put _ _ _=A0;simp [Act.put] at hG;subst hG;refine aG (i:=6) (by kernel_rfl) (eW rfl rfl (by go_simp) (HR.out w.drew gd) ?_);rintro e w1 ⟨f,A,rfl,a3,g1⟩;have Y:=M _ _ E g1;refine ⟨_,rfl,.inr Y,?_⟩;have a1:=aA gd g1;have Z:∀ k,(F k\/(w.drew.heap.size<=k/\k<w1.heap.size))->k<w1.heap.size:=fun k J=>J.elim (fun h=>Nat.lt_of_lt_of_le (hF k h) a1.size) (fun h=>h.2);have a7:=aKu a3 Z;have gA:=grownBy_alloc w1 (Obj.cells #[.func (.func f) #[] A] 57) none;have a0:=M _ _ Y gA;have a6:=aB (mU 7 D _ _ _ _ a7 (fun k J=>J.elim (fun h=>by have:=Z k h;simp;omega) (fun h=>by simp;omega)) (by simp));refine aG (i:=7) (by kernel_rfl) (bM (w':=w1.alloc (Obj.cells #[.func (.func f) #[] A] 57)) (v:=.slice (some ⟨w1.heap.size,0,none⟩) 1 1) rfl rfl (by go_simp) ⟨.inr a0,?_⟩);refine aG (i:=8) (by kernel_rfl) (eW rfl rfl (by go_simp) a6.out ?_);rintro e w2 ⟨f2,H,rfl,a4,g2⟩;have S:=M _ _ a0 g2;refine ⟨_,rfl,.inr S,?_⟩;refine aG (i:=9) (by kernel_rfl) (bM (w':=w2) (v:=.func (.func f2) #[] H) rfl rfl (by go_simp) ⟨.inr S,?_⟩);refine bK (by kernel_rfl) ?_ _;have c0:=aB a4;have b3:=aB (aA (aA a1 gA) g2);have c9:=a1.size;have b5:=g2.size;subst hI;clear a6 a7 a3 a4 g1 g2 gA HR M Z E Y a0 S;go_wp2;go_ret;refine ⟨f2,H,rfl,?_,b3.out⟩;have N:=c0.out;rw [show [eR G].flatten++[(⟨7,[],D⟩:Pc)]=iE D G by simp [iE]] at N;simp at b5;refine N.at (fun k J=>?_) (fun _ _=>rfl);rcases J with (J | J) | J
 .rcases J with h | h
  .exact .inl h
  .have h1:=h.1;have h2:=h.2;exact .inr ⟨h1,by omega⟩
 .exact .inr ⟨by omega,by omega⟩
 .have h1:=J.1;simp at h1;exact .inr ⟨by omega,J.2⟩
end
structure Sx (bs B:Nat) (ind m:Int) (w:World) (nv:Value) (R:List Nod):Prop where
 shp:Shp w bs nv ind
 rd:RdN B w nv R
 tab:Tab w
 mx:w.cell? ⟨1,0,none⟩=some (.int .i64 m)
theorem Sx.K {D B A m w w' E R} (h:Sx D B A m w E R) (g:w.grownBy w' none):Sx D B A m w' E R:=⟨h.shp.K g,h.rd.K g,h.tab.K g,g.cell h.mx (by simp)⟩
theorem Sx.lt {D B A m w E R} (h:Sx D B A m w E R):D+3<w.heap.size:=h.shp.sz
theorem pR {A B E m w G F R r} (h:Sx A B E m w F R) (g:w.grownBy G r) (H:∀ x,r=some x->A+3<x) (J:B<=A) (I:1<A):Sx A B E m G F R:=by
 have D:∀ b,b<=A+3->some b≠r:=fun b M e=>by have:=H b e.symm;omega
 refine ⟨⟨Nat.lt_of_lt_of_le h.shp.sz g.size,g.cell h.shp.n (D A (by omega)),?_,g.cell h.shp.i (D A (by omega)),⟨g.cell h.shp.v0.1 (D A (by omega)),g.cell h.shp.v0.2 (D (A+1) (by omega))⟩,⟨g.cell h.shp.v1.1 (D A (by omega)),g.cell h.shp.v1.2 (D (A+2) (by omega))⟩,⟨g.cell h.shp.v2.1 (D A (by omega)),g.cell h.shp.v2.2 (D (A+3) (by omega))⟩,g.cell h.shp.v3 (D A (by omega)),g.cell h.shp.v4 (D A (by omega)),g.cell h.shp.v5 (D A (by omega)),g.cell h.shp.v6 (D A (by omega))⟩,h.rd.beside g (fun k e=>by have:=H k e;omega),⟨g.cell h.tab.c0 (D 0 (by omega)),g.cell h.tab.c1 (D 0 (by omega)),g.cell h.tab.c2 (D 0 (by omega)),g.cell h.tab.c3 (D 0 (by omega)),g.cell h.tab.c4 (D 0 (by omega))⟩,g.cell h.mx (D 1 (by omega))⟩;rw [frozen?_of_block (g.block A (block_lt_of_cell? w _ h.shp.n) (D A (by omega)))];exact h.shp.fz
def qH (bs B:Nat) (ind m:Int) (w:World) (ps:List Pc) (R2:List Nod) (e:Ending) (w':World):Prop:=
 ∃ f caps nv',e=.returned (.func (.func f) #[] caps)/\bU w' (fun k=>w.heap.size<=k/\k<w'.heap.size) f caps ps/\Sx bs B ind m w' nv' R2/\w.grownBy w' (some bs)
def aDY (bs B:Nat) (ind m:Int) (w:World) (dss:List (List Pc)) (R2:List Nod) (e:Ending) (w':World):Prop:=
 ∃ v' nv',e=.returned v'/\PoL w.heap.size w' v' dss/\Sx bs B ind m w' nv' R2/\w.grownBy w' (some bs)
theorem gE {a:World} {b r} (g:a.grownBy b none):a.grownBy b r:=⟨g.os,g.tape,g.output,g.size,fun k h _=>g.block k h (by simp)⟩
theorem bA {a:World} {b c r} {A:Nat} (h:a.grownBy b (some A)) (k:b.grownBy c r) (F:∀ j,r=some j->a.heap.size<=j\/j=A):a.grownBy c (some A):=
 ⟨k.os.trans h.os,k.tape.trans h.tape,k.output.trans h.output,Nat.le_trans h.size k.size,fun i D E=>(k.block i (Nat.lt_of_lt_of_le D h.size) (fun e=>by have:=F i e.symm;simp only [ne_eq,Option.some.injEq] at E;omega)).trans (h.block i D E)⟩
theorem aIZ (A d m c) (R D:List Nod) (J:aN (aE bD d m) c (R,())=some (D,())) (M:∀ n∈R,n.k<5->n.C=0) :
  ∀ j,j<=c->bW (itK (aH A d) j R)<=wNs R/\(∃ P,R=P++bE (aH A d) j R)/\(j=c->bE (aH A d) j R=D)/\(j<c->aE bD d m (bE (aH A d) j R,())=some (bE (aH A d) (j+1) R,())):=by
 intro j G;have F:=pK (ind:=A) (fun R D h H=>sB A d m R D h H) c _ D J M;obtain ⟨P,N⟩:=(iO (cB bD d m).1 (cB bD d m).2 j).2 _ _ (F j G);refine ⟨?_,⟨P,N⟩,fun e=>?_,fun O=>?_⟩
 .obtain ⟨S,I,Y⟩:=wE (ind:=A) (fun R D h H=>tF A d m R D h H) j _ _ (F j G) M;have Z:wNs R=wNs S+wNs (bE (aH A d) j R):=(by rw [<- vT,<- I]);omega
 .subst e;have E:=F j G;rw [J] at E;simpa using E.symm
 .have E:=F (j+1) (by omega);rw [oB,F j G,Option.bind_some] at E;exact E
structure NsK (R:List Nod):Prop where
 nd:∀ p∈R,fS gM oP p
 ok:∀ p∈R,zM p
 cn:∀ p∈R,p.C<=9223372036854775807
 wt:wNs R<=2000000
theorem NsK.sub {R} {P S:List Nod} (h:NsK R) (e:R=P++S):NsK S:=
 ⟨fun p A=>h.nd p (by rw [e];exact mem_append_right _ A),fun p A=>h.ok p (by rw [e];exact mem_append_right _ A),fun p A=>h.cn p (by rw [e];exact mem_append_right _ A),by have:=h.wt;rw [e,vT] at this;omega⟩
theorem aGB {B:Nat} {E:World} {f I D A J H} (N:B<=E.heap.size) (h:bU E (fun k=>B<=k/\k<E.heap.size) f D J) (O:bU E (fun k=>B<=k/\k<E.heap.size) I A H) :
  PaR (E.alloc (Obj.cells #[.func (.func f) #[] D,.func (.func I) #[] A] 57)) (fun k=>B<=k/\k<(E.alloc (Obj.cells #[.func (.func f) #[] D,.func (.func I) #[] A] 57)).heap.size) (.slice (some ⟨E.heap.size,0,none⟩) 2 2) [J,H]:=by
 have M:=grownBy_alloc E (Obj.cells #[.func (.func f) #[] D,.func (.func I) #[] A] 57) none;refine ⟨_,2,rfl,Nat.le_refl _,by unfold maxLen;omega,fun _=>⟨E.heap.size,0,rfl,⟨N,by simp⟩,by simp,fun j d F=>?_⟩⟩
 match j,F with
 | 0,F=>simp at F;subst F;exact ⟨f,D,by simp [go_sem],h.at (fun k G=>⟨G.1,by simp;omega⟩) (fun k G=>M.block k G.2 (by simp))⟩
 | 1,F=>simp at F;subst F;exact ⟨I,A,by simp [go_sem],O.at (fun k G=>⟨G.1,by simp;omega⟩) (fun k G=>M.block k G.2 (by simp))⟩
 | j+2,F=>simp at F
theorem sR {B:Nat} {D:World} {f A G} (I:B<=D.heap.size) (h:bU D (fun k=>B<=k/\k<D.heap.size) f A G) :
  PaR (D.alloc (Obj.cells #[.func (.func f) #[] A] 57)) (fun k=>B<=k/\k<(D.alloc (Obj.cells #[.func (.func f) #[] A] 57)).heap.size) (.slice (some ⟨D.heap.size,0,none⟩) 1 1) [G]:=by
 have H:=grownBy_alloc D (Obj.cells #[.func (.func f) #[] A] 57) none;refine ⟨_,1,rfl,Nat.le_refl _,by unfold maxLen;omega,fun _=>⟨D.heap.size,0,rfl,⟨I,by simp⟩,by simp,fun j d E=>?_⟩⟩
 match j,E with
 | 0,E=>simp at E;subst E;exact ⟨f,A,by simp [go_sem],h.at (fun k F=>⟨F.1,by simp;omega⟩) (fun k F=>H.block k F.2 (by simp))⟩
 | j+1,E=>simp at E
theorem aEt {B:Nat} {I:World} {f J S N F D A E ds Y O M} (hB:B<=I.heap.size) (h:bU I (fun k=>B<=k/\k<I.heap.size) f F ds) (h2:bU I (fun k=>B<=k/\k<I.heap.size) J D Y) (h3:bU I (fun k=>B<=k/\k<I.heap.size) S A O) (h4:bU I (fun k=>B<=k/\k<I.heap.size) N E M) :
  PaR (I.alloc (Obj.cells #[.func (.func f) #[] F,.func (.func J) #[] D,.func (.func S) #[] A,.func (.func N) #[] E] 57)) (fun k=>B<=k/\k<(I.alloc (Obj.cells #[.func (.func f) #[] F,.func (.func J) #[] D,.func (.func S) #[] A,.func (.func N) #[] E] 57)).heap.size) (.slice (some ⟨I.heap.size,0,none⟩) 4 4) [ds,Y,O,M]:=by
 have Z:=grownBy_alloc I (Obj.cells #[.func (.func f) #[] F,.func (.func J) #[] D,.func (.func S) #[] A,.func (.func N) #[] E] 57) none;refine ⟨_,4,rfl,Nat.le_refl _,by unfold maxLen;omega,fun _=>⟨I.heap.size,0,rfl,⟨hB,by simp⟩,by simp,fun j d H=>?_⟩⟩
 match j,H with
 | 0,H=>simp at H;subst H;exact ⟨f,F,by simp [go_sem],h.at (fun k G=>⟨G.1,by simp;omega⟩) (fun k G=>Z.block k G.2 (by simp))⟩
 | 1,H=>simp at H;subst H;exact ⟨J,D,by simp [go_sem],h2.at (fun k G=>⟨G.1,by simp;omega⟩) (fun k G=>Z.block k G.2 (by simp))⟩
 | 2,H=>simp at H;subst H;exact ⟨S,A,by simp [go_sem],h3.at (fun k G=>⟨G.1,by simp;omega⟩) (fun k G=>Z.block k G.2 (by simp))⟩
 | 3,H=>simp at H;subst H;exact ⟨N,E,by simp [go_sem],h4.at (fun k G=>⟨G.1,by simp;omega⟩) (fun k G=>Z.block k G.2 (by simp))⟩
 | j+4,H=>simp at H
theorem bU.moreB {G F} {A B:Nat} {f D H} (h:bU G (fun k=>A<=k/\k<G.heap.size) f D H) (I:B<=A) (g:G.grownBy F none):bU F (fun k=>B<=k/\k<F.heap.size) f D H:=
 h.at (fun k E=>⟨Nat.le_trans I E.1,Nat.lt_of_lt_of_le E.2 g.size⟩) (fun k E=>g.block k E.2 (by simp))
end Go.Proofs.YtckcaefnokeodaaGreatDoor
