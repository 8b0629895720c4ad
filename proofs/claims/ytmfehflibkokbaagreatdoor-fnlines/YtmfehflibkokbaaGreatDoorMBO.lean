import Derived.Test.YtmfehflibkokbaaGreatDoorMBN
set_option maxHeartbeats 16000000
set_option maxRecDepth 100000
namespace Go.Proofs.YtmfehflibkokbaaGreatDoor
open Go.Proofs.Tryz
open Go.RowKit
attribute [-go_sem] Builtin.append_
theorem jE (W:World) (b o:Nat) (x:Value) (f:Fn) (p c:Array Value) (y:W.cell? ⟨b,o,none⟩=some x) (h:W.frozen? ⟨b,o,none⟩=false):(store ⟨b,o,none⟩ (.func f p c)).run prog W=.ok () (W.setCell ⟨b,o,none⟩ (.func f p c)):=by
 rw [run_store prog W _ _ _ rfl,y];simp [h]
abbrev aLk:List Int:=[110,117,108,108]
abbrev aK1:List Int:=[116,114,117,101]
abbrev aK5:List Int:=[102,97,108,115,101]
structure Shp (w:World) (bs:Nat) (nv:Value) (ind:Int):Prop where
 sz:bs+3<w.heap.size
 n:w.cell? ⟨bs,0,none⟩=some nv
 fz:w.frozen? ⟨bs,0,none⟩=false
 i:w.cell? ⟨bs,1,none⟩=some (.int .i64 ind)
 v0:w.cell? ⟨bs,2,none⟩=some (.func (.func 92) #[] #[.pointer (some ⟨bs+1,0,none⟩)])/\w.cell? ⟨bs+1,0,none⟩=some (.string (strOfNums aLk))
 v1:w.cell? ⟨bs,3,none⟩=some (.func (.func 92) #[] #[.pointer (some ⟨bs+2,0,none⟩)])/\w.cell? ⟨bs+2,0,none⟩=some (.string (strOfNums aK1))
 v2:w.cell? ⟨bs,4,none⟩=some (.func (.func 92) #[] #[.pointer (some ⟨bs+3,0,none⟩)])/\w.cell? ⟨bs+3,0,none⟩=some (.string (strOfNums aK5))
 v3:w.cell? ⟨bs,5,none⟩=some (.func (.func 51) #[] #[])
 v4:w.cell? ⟨bs,6,none⟩=some (.func (.func 52) #[] #[])
 v5:w.cell? ⟨bs,7,none⟩=some (.func (.func 53) #[.pointer (some ⟨bs,0,none⟩)] #[])
 v6:w.cell? ⟨bs,8,none⟩=some (.func (.func 54) #[.pointer (some ⟨bs,0,none⟩)] #[])
theorem Shp.K {w w':World} {y:Nat} {nv:Value} {ind:Int} (h:Shp w y nv ind) (g:w.grownBy w' none):Shp w' y nv ind:=
 ⟨Nat.lt_of_lt_of_le h.sz g.size,g.cell h.n (by simp),by rw [World.frozen?_of_block (g.block y (World.block_lt_of_cell? w _ h.n) (by simp))];exact h.fz,g.cell h.i (by simp),⟨g.cell h.v0.1 (by simp),g.cell h.v0.2 (by simp)⟩,⟨g.cell h.v1.1 (by simp),g.cell h.v1.2 (by simp)⟩,⟨g.cell h.v2.1 (by simp),g.cell h.v2.2 (by simp)⟩,g.cell h.v3 (by simp),g.cell h.v4 (by simp),g.cell h.v5 (by simp),g.cell h.v6 (by simp)⟩
theorem Shp.turn {w:World} {A:Nat} {nv:Value} {ind:Int} (h:Shp w A nv ind) (y:Value):Shp (w.setCell ⟨A,0,none⟩ y) A y ind:=by
 have c:∀ b j,(b≠A\/j≠0)->(w.setCell ⟨A,0,none⟩ y).cell? ⟨b,j,none⟩=w.cell? ⟨b,j,none⟩:=fun b j G=>World.cell?_setCell_other _ _ _ _ (by intro e;have D:=congrArg Addr.block e;have E:=congrArg Addr.off e;simp only at D E;omega);refine ⟨by simpa using h.sz,by have:=h.n;simp [go_sem,this],by simpa using h.fz,by rw [c _ _ (.inr (by omega))];exact h.i,⟨by rw [c _ _ (.inr (by omega))];exact h.v0.1,by rw [c _ _ (.inl (by omega))];exact h.v0.2⟩,⟨by rw [c _ _ (.inr (by omega))];exact h.v1.1,by rw [c _ _ (.inl (by omega))];exact h.v1.2⟩,⟨by rw [c _ _ (.inr (by omega))];exact h.v2.1,by rw [c _ _ (.inl (by omega))];exact h.v2.2⟩,by rw [c _ _ (.inr (by omega))];exact h.v3,by rw [c _ _ (.inr (by omega))];exact h.v4,by rw [c _ _ (.inr (by omega))];exact h.v5,by rw [c _ _ (.inr (by omega))];exact h.v6⟩
theorem aAC (a:Option Addr) (L cap:Nat) (ind:Int) (w:World) :
  Calls prog 23 #[.slice a L cap,.int .i64 ind] w fun e w'=>e=.returned (.pointer (some ⟨w.heap.size,0,none⟩))/\Shp w' w.heap.size (.slice a L cap) ind/\w.grownBy w' none:=by
 obtain ⟨S,G⟩:∃ S,S=(((w.alloc (Obj.cells #[.slice a L cap,.int .i64 ind,.nilFunc,.nilFunc,.nilFunc,.nilFunc,.nilFunc,.nilFunc,.nilFunc] 114)).alloc (Obj.cells #[.string { data:=#[110,117,108,108] }] 9)).alloc (Obj.cells #[.string { data:=#[116,114,117,101] }] 9)).alloc (Obj.cells #[.string { data:=#[102,97,108,115,101] }] 9):=⟨_,rfl⟩;have Y:∀ j,S.frozen? ⟨w.heap.size,j,none⟩=false:=fun j=>by rw [G];simp [go_sem]
 have hg:w.grownBy S none:=(by rw [G];exact aA (aA (aA gWA gWA) gWA) gWA);have q0:S.cell? ⟨w.heap.size,0,none⟩=some (.slice a L cap):=(by rw [G];simp [go_sem]);have q1:S.cell? ⟨w.heap.size,1,none⟩=some (.int .i64 ind):=(by rw [G];simp [go_sem]);have q2:S.cell? ⟨w.heap.size,2,none⟩=some .nilFunc:=(by rw [G];simp [go_sem]);have q3:S.cell? ⟨w.heap.size,3,none⟩=some .nilFunc:=(by rw [G];simp [go_sem]);have q4:S.cell? ⟨w.heap.size,4,none⟩=some .nilFunc:=(by rw [G];simp [go_sem]);have q5:S.cell? ⟨w.heap.size,5,none⟩=some .nilFunc:=(by rw [G];simp [go_sem]);have q6:S.cell? ⟨w.heap.size,6,none⟩=some .nilFunc:=(by rw [G];simp [go_sem]);have q7:S.cell? ⟨w.heap.size,7,none⟩=some .nilFunc:=(by rw [G];simp [go_sem]);have q8:S.cell? ⟨w.heap.size,8,none⟩=some .nilFunc:=(by rw [G];simp [go_sem]);have t0:S.cell? ⟨w.heap.size+1,0,none⟩=some (.string { data:=#[110,117,108,108] }):=(by rw [G];simp [go_sem]);have t1:S.cell? ⟨w.heap.size+1+1,0,none⟩=some (.string { data:=#[116,114,117,101] }):=(by rw [G];simp [go_sem]);have t2:S.cell? ⟨w.heap.size+1+1+1,0,none⟩=some (.string { data:=#[102,97,108,115,101] }):=(by rw [G];simp [go_sem]);obtain ⟨W1,A⟩:∃ W1,W1=S.setCell ⟨w.heap.size,2,none⟩ (.func (.func 92) #[] #[.pointer (some ⟨w.heap.size+1,0,none⟩)]):=⟨_,rfl⟩;have e1:(store ⟨w.heap.size,2,none⟩ (.func (.func 92) #[] #[.pointer (some ⟨w.heap.size+1,0,none⟩)])).run prog S=.ok () W1:=(by rw [A];exact jE S _ _ _ _ _ _ q2 (Y 2));obtain ⟨W2,D⟩:∃ W2,W2=W1.setCell ⟨w.heap.size,3,none⟩ (.func (.func 92) #[] #[.pointer (some ⟨w.heap.size+1+1,0,none⟩)]):=⟨_,rfl⟩;have p2:W1.cell? ⟨w.heap.size,3,none⟩=some .nilFunc:=(by rw [A,World.cell?_setCell_other _ _ _ _ (by intro e;have y:=congrArg Addr.off e;simp only at y;omega)];exact q3);have e2:(store ⟨w.heap.size,3,none⟩ (.func (.func 92) #[] #[.pointer (some ⟨w.heap.size+1+1,0,none⟩)])).run prog W1=.ok () W2:=(by rw [D];exact jE W1 _ _ _ _ _ _ p2 (by rw [A];simpa using Y 3));obtain ⟨W3,E⟩:∃ W3,W3=W2.setCell ⟨w.heap.size,4,none⟩ (.func (.func 92) #[] #[.pointer (some ⟨w.heap.size+1+1+1,0,none⟩)]):=⟨_,rfl⟩;have p3:W2.cell? ⟨w.heap.size,4,none⟩=some .nilFunc:=(by rw [D,World.cell?_setCell_other _ _ _ _ (by intro e;have y:=congrArg Addr.off e;simp only at y;omega)];rw [A,World.cell?_setCell_other _ _ _ _ (by intro e;have y:=congrArg Addr.off e;simp only at y;omega)];exact q4);have e3:(store ⟨w.heap.size,4,none⟩ (.func (.func 92) #[] #[.pointer (some ⟨w.heap.size+1+1+1,0,none⟩)])).run prog W2=.ok () W3:=(by rw [E];exact jE W2 _ _ _ _ _ _ p3 (by rw [D,A];simpa using Y 4));obtain ⟨W4,J⟩:∃ W4,W4=W3.setCell ⟨w.heap.size,5,none⟩ (.func (.func 51) #[] #[]):=⟨_,rfl⟩;have p4:W3.cell? ⟨w.heap.size,5,none⟩=some .nilFunc:=(by rw [E,World.cell?_setCell_other _ _ _ _ (by intro e;have y:=congrArg Addr.off e;simp only at y;omega)];rw [D,World.cell?_setCell_other _ _ _ _ (by intro e;have y:=congrArg Addr.off e;simp only at y;omega)];rw [A,World.cell?_setCell_other _ _ _ _ (by intro e;have y:=congrArg Addr.off e;simp only at y;omega)];exact q5);have e4:(store ⟨w.heap.size,5,none⟩ (.func (.func 51) #[] #[])).run prog W3=.ok () W4:=(by rw [J];exact jE W3 _ _ _ _ _ _ p4 (by rw [E,D,A];simpa using Y 5));obtain ⟨W5,M⟩:∃ W5,W5=W4.setCell ⟨w.heap.size,6,none⟩ (.func (.func 52) #[] #[]):=⟨_,rfl⟩;have p5:W4.cell? ⟨w.heap.size,6,none⟩=some .nilFunc:=(by rw [J,World.cell?_setCell_other _ _ _ _ (by intro e;have y:=congrArg Addr.off e;simp only at y;omega)];rw [E,World.cell?_setCell_other _ _ _ _ (by intro e;have y:=congrArg Addr.off e;simp only at y;omega)];rw [D,World.cell?_setCell_other _ _ _ _ (by intro e;have y:=congrArg Addr.off e;simp only at y;omega)];rw [A,World.cell?_setCell_other _ _ _ _ (by intro e;have y:=congrArg Addr.off e;simp only at y;omega)];exact q6);have e5:(store ⟨w.heap.size,6,none⟩ (.func (.func 52) #[] #[])).run prog W4=.ok () W5:=(by rw [M];exact jE W4 _ _ _ _ _ _ p5 (by rw [J,E,D,A];simpa using Y 6));obtain ⟨W6,N⟩:∃ W6,W6=W5.setCell ⟨w.heap.size,7,none⟩ (.func (.func 53) #[.pointer (some ⟨w.heap.size,0,none⟩)] #[]):=⟨_,rfl⟩;have p6:W5.cell? ⟨w.heap.size,7,none⟩=some .nilFunc:=(by rw [M,World.cell?_setCell_other _ _ _ _ (by intro e;have y:=congrArg Addr.off e;simp only at y;omega)];rw [J,World.cell?_setCell_other _ _ _ _ (by intro e;have y:=congrArg Addr.off e;simp only at y;omega)];rw [E,World.cell?_setCell_other _ _ _ _ (by intro e;have y:=congrArg Addr.off e;simp only at y;omega)];rw [D,World.cell?_setCell_other _ _ _ _ (by intro e;have y:=congrArg Addr.off e;simp only at y;omega)];rw [A,World.cell?_setCell_other _ _ _ _ (by intro e;have y:=congrArg Addr.off e;simp only at y;omega)];exact q7);have e6:(store ⟨w.heap.size,7,none⟩ (.func (.func 53) #[.pointer (some ⟨w.heap.size,0,none⟩)] #[])).run prog W5=.ok () W6:=(by rw [N];exact jE W5 _ _ _ _ _ _ p6 (by rw [M,J,E,D,A];simpa using Y 7));obtain ⟨W7,O⟩:∃ W7,W7=W6.setCell ⟨w.heap.size,8,none⟩ (.func (.func 54) #[.pointer (some ⟨w.heap.size,0,none⟩)] #[]):=⟨_,rfl⟩;have p7:W6.cell? ⟨w.heap.size,8,none⟩=some .nilFunc:=(by rw [N,World.cell?_setCell_other _ _ _ _ (by intro e;have y:=congrArg Addr.off e;simp only at y;omega)];rw [M,World.cell?_setCell_other _ _ _ _ (by intro e;have y:=congrArg Addr.off e;simp only at y;omega)];rw [J,World.cell?_setCell_other _ _ _ _ (by intro e;have y:=congrArg Addr.off e;simp only at y;omega)];rw [E,World.cell?_setCell_other _ _ _ _ (by intro e;have y:=congrArg Addr.off e;simp only at y;omega)];rw [D,World.cell?_setCell_other _ _ _ _ (by intro e;have y:=congrArg Addr.off e;simp only at y;omega)];rw [A,World.cell?_setCell_other _ _ _ _ (by intro e;have y:=congrArg Addr.off e;simp only at y;omega)];exact q8);have e7:(store ⟨w.heap.size,8,none⟩ (.func (.func 54) #[.pointer (some ⟨w.heap.size,0,none⟩)] #[])).run prog W6=.ok () W7:=by rw [O];exact jE W6 _ _ _ _ _ _ p7 (by rw [N,M,J,E,D,A];simpa using Y 8)
 have X:∀ b j,(b≠w.heap.size\/j<2)->W7.cell? ⟨b,j,none⟩=S.cell? ⟨b,j,none⟩:=fun b j hj=>by
  rw [O,N,M,J,E,D,A];have Z:∀ (U:World) (o:Nat) (x:Value),2<=o->(U.setCell ⟨w.heap.size,o,none⟩ x).cell? ⟨b,j,none⟩=U.cell? ⟨b,j,none⟩:=fun U o x ho=>World.cell?_setCell_other _ _ _ _ (by intro e;have h1:=congrArg Addr.block e;have y:=congrArg Addr.off e;simp only at h1 y;omega);rw [Z _ _ _ (by omega),Z _ _ _ (by omega),Z _ _ _ (by omega),Z _ _ _ (by omega),Z _ _ _ (by omega),Z _ _ _ (by omega),Z _ _ _ (by omega)]
 have h:∀ (U:World) (o o':Nat) (x:Value),o≠o'->(U.setCell ⟨w.heap.size,o,none⟩ x).cell? ⟨w.heap.size,o',none⟩=U.cell? ⟨w.heap.size,o',none⟩:=fun U o o' x ho=>World.cell?_setCell_other _ _ _ _ (by intro e;have y:=congrArg Addr.off e;simp only at y;omega)
 have b5:Hid (Shp W7 w.heap.size (.slice a L cap) ind):=by
  refine ⟨by rw [O,N,M,J,E,D,A,G];simp,by rw [X _ _ (.inr (by omega))];exact q0,by rw [O,N,M,J,E,D,A];simpa using Y 0,by rw [X _ _ (.inr (by omega))];exact q1,⟨?_,by rw [X _ _ (.inl (by omega))];exact t0⟩,⟨?_,by rw [X _ _ (.inl (by omega))];exact t1⟩,⟨?_,by rw [X _ _ (.inl (by omega))];exact t2⟩,?_,?_,?_,?_⟩
  ·rw [O,h _ _ _ _ (by omega),N,h _ _ _ _ (by omega),M,h _ _ _ _ (by omega),J,h _ _ _ _ (by omega),E,h _ _ _ _ (by omega),D,h _ _ _ _ (by omega),A];simp [go_sem,q2]
  ·rw [O,h _ _ _ _ (by omega),N,h _ _ _ _ (by omega),M,h _ _ _ _ (by omega),J,h _ _ _ _ (by omega),E,h _ _ _ _ (by omega),D];simp [go_sem,p2]
  ·rw [O,h _ _ _ _ (by omega),N,h _ _ _ _ (by omega),M,h _ _ _ _ (by omega),J,h _ _ _ _ (by omega),E];simp [go_sem,p3]
  ·rw [O,h _ _ _ _ (by omega),N,h _ _ _ _ (by omega),M,h _ _ _ _ (by omega),J];simp [go_sem,p4]
  ·rw [O,h _ _ _ _ (by omega),N,h _ _ _ _ (by omega),M];simp [go_sem,p5]
  ·rw [O,h _ _ _ _ (by omega),N];simp [go_sem,p6]
  ·rw [O];simp [go_sem,p7]
 have b8:Hid (w.grownBy W7 none):=by
  have hB:=(aT hg);unfold Hid;rw [O,N,M,J,E,D,A];exact aC (((((((hB.setCell (by simp) _).setCell (by simp) _).setCell (by simp) _).setCell (by simp) _).setCell (by simp) _).setCell (by simp) _).setCell (by simp) _)
 rw [G] at e1;clear X h O N M J E D A q0 q1 q2 q3 q4 q5 q6 q7 q8 t0 t1 t2 Y hg p2 p3 p4 p5 p6 p7 G
 go_enter func23,ntmps23
 go_wp2;go_ret;exact ⟨rfl,b5.out,b8.out⟩
def mG (w:World) (ps:List Pc) (e:Ending) (w':World):Prop:=∃ f caps,e=.returned (.func (.func f) #[] caps)/\bP w' (fun k=>w.heap.size<=k/\k<w'.heap.size) f caps ps/\w.grownBy w' none
theorem mG.from {w w0:World} {ps:List Pc} {e:Ending} {w':World} (h:mG w0 ps e w') (g:w.grownBy w0 none):mG w ps e w':=by
 obtain ⟨f,y,E,G,D⟩:=h;exact ⟨f,y,E,G.at (fun k A=>⟨Nat.le_trans g.size A.1,A.2⟩) (fun _ _=>rfl),aA g D⟩
theorem sZ (p:Nod) (lv J O E tv:Value) (b:Nat) (h:List Int) (hb:Bys h) (hn:h.length<=1000) (w:World) (G:w.cell? ⟨b,0,none⟩=some (.string (strOfNums h)))
  (sl:Sl lv p.L.length) (sk:Sl J p.key.length) (sx:Sl O p.X.length) (su:Sl E p.U.length) (st:Sl tv p.tail.length) :
  Calls prog 92 #[.agg #[.int .i64 p.k,lv,.bool p.mem,J,O,E,.int .i64 p.C,tv],.pointer (some ⟨b,0,none⟩)] w fun e w'=>mG w (aG h) e w':=by
 obtain ⟨la,lc,rfl,_⟩:=sl;obtain ⟨ka,kc,rfl,_⟩:=sk;obtain ⟨xa,xc,rfl,_⟩:=sx;obtain ⟨ua,Z,rfl,_⟩:=su;obtain ⟨ta,tc,rfl,_⟩:=st;obtain ⟨W,S⟩:∃ W,W=w.alloc (Obj.cells #[.int .i64 p.k,.slice la p.L.length lc,.bool p.mem,.slice ka p.key.length kc,.slice xa p.X.length xc,.slice ua p.U.length Z,.int .i64 p.C,.slice ta p.tail.length tc] 35):=⟨_,rfl⟩;have A:w.grownBy W none:=(by rw [S];exact gWA);have M:=aB (cG h hb (by omega) W);have D:=A.cell G (by simp);have Y:=aB A;subst S;clear A G
 go_enter func92,ntmps92
 go_wp2_with fail
 refine M.out.mono ?_;rintro e w1 ⟨f,y,rfl,N,g⟩;have HP:=aB (show mG _ (aG h) _ w1 from ⟨f,y,rfl,N,g⟩);clear M N g D;go_wp2;go_ret;exact HP.out.from Y.out
theorem aD8 (p:Nod) (lv J D E tv:Value) (w:World) (G:RdB w.heap.size w D p.X) (sx:Sl D p.X.length) (hb:Bys p.X) (hn:p.X.length<=1048576)
  (sl:Sl lv p.L.length) (sk:Sl J p.key.length) (Z:Sl E p.U.length) (st:Sl tv p.tail.length) :
  Calls prog 51 #[.agg #[.int .i64 p.k,lv,.bool p.mem,J,D,E,.int .i64 p.C,tv]] w fun e w'=>mG w (aG p.X) e w':=by
 obtain ⟨la,lc,rfl,_⟩:=sl;obtain ⟨ka,kc,rfl,_⟩:=sk;obtain ⟨xa,xc,rfl,_⟩:=sx;obtain ⟨ua,Y,rfl,_⟩:=Z;obtain ⟨ta,tc,rfl,_⟩:=st;obtain ⟨W,O⟩:∃ W,W=w.alloc (Obj.cells #[.int .i64 p.k,.slice la p.L.length lc,.bool p.mem,.slice ka p.key.length kc,.slice xa p.X.length xc,.slice ua p.U.length Y,.int .i64 p.C,.slice ta p.tail.length tc] 35):=⟨_,rfl⟩;have A:w.grownBy W none:=(by rw [O];exact gWA);have h:=oX (G.K A);have M:=aB (cG p.X hb (by omega) W);have S:=aB A;subst O;clear G A
 go_enter func51,ntmps51
 go_wp2_with fail
 refine M.out.mono ?_;rintro e w1 ⟨f,y,rfl,N,g⟩;have HP:=aB (show mG _ (aG p.X) _ w1 from ⟨f,y,rfl,N,g⟩);clear M N g h;go_wp2;go_ret;exact HP.out.from S.out
theorem aEN (p:Nod) (lv M Z A tv:Value) (w:World) (hT:Tab w) (J:RdI w.heap.size w A p.U) (su:Sl A p.U.length) (hn:p.U.length<=1048576)
  (sl:Sl lv p.L.length) (sk:Sl M p.key.length) (sx:Sl Z p.X.length) (st:Sl tv p.tail.length) :
  Calls prog 52 #[.agg #[.int .i64 p.k,lv,.bool p.mem,M,Z,A,.int .i64 p.C,tv]] w fun e w'=>mG w (aG (quR p.U).1) e w':=by
 obtain ⟨la,lc,rfl,_⟩:=sl;obtain ⟨ka,kc,rfl,_⟩:=sk;obtain ⟨xa,xc,rfl,_⟩:=sx;obtain ⟨O,D,rfl,_⟩:=su;obtain ⟨ta,tc,rfl,_⟩:=st;obtain ⟨W,hW⟩:∃ W,W=w.alloc (Obj.cells #[.int .i64 p.k,.slice la p.L.length lc,.bool p.mem,.slice ka p.key.length kc,.slice xa p.X.length xc,.slice O p.U.length D,.int .i64 p.C,.slice ta p.tail.length tc] 35):=⟨_,rfl⟩;have y:w.grownBy W none:=(by rw [hW];exact gWA);have E:=aB (pY (.slice O p.U.length D) p.U W (hT.K y) ((J.K y).wideC y.size) hn);have a8:=aB9 p.U;have N:Hid (∀ W:World,_):=fun W=>cG (quR p.U).1 (aFX _) (by omega) W;have HG:=aB y;subst hW;clear J y
 go_enter func52,ntmps52
 go_wp2_with fail
 refine E.out.mono ?_;rintro e S ⟨rfl,G⟩;have G1:=aB (aA HG.out G);clear E G
 go_wp2_with fail
 refine (N.out S).mono ?_;rintro e w2 ⟨f,h,rfl,Y,g⟩;have HP:=aB (show mG S (aG (quR p.U).1) _ w2 from ⟨f,h,rfl,Y,g⟩);clear N Y g;go_wp2;go_ret;exact HP.out.from G1.out
theorem aJ2 {w:World} {F:Nat->Prop} {f:Nat} {y:Array Value} {E:List Pc} (h:bP w F f y E) (J:∀ k,F k->k<w.heap.size) :
  PaR (w.alloc (Obj.cells #[.func (.func f) #[] y] 56)) (fun k=>F k\/k=w.heap.size) (.slice (some ⟨w.heap.size,0,none⟩) 1 1) [E]:=by
 have G:=World.grownBy_alloc w (Obj.cells #[.func (.func f) #[] y] 56) none;refine ⟨_,1,rfl,Nat.le_refl _,by unfold maxLen;omega,fun _=>⟨w.heap.size,0,rfl,.inr rfl,by simp,fun j d A=>?_⟩⟩
 match j,A with
 | 0,A=>simp at A;subst A;exact ⟨f,y,by simp [go_sem],h.at (fun k D=>.inl D) (fun k D=>G.block k (J k D) (by simp))⟩
 | j+1,A=>simp at A
theorem aDp (bs:Nat) (nv:Value) (ind:Int) (v:Value) (D:List (List Pc)) (F:Nat->Prop) (w:World) (hs:Shp w bs nv ind) (hp:PaR w F v D) (hF:∀ k,F k->k<w.heap.size) (hl:D.length<=1000000000) :
  Calls prog 130 #[.pointer (some ⟨bs,0,none⟩),v] w fun e w'=>∃ f y,e=.returned (.func (.func f) #[] y)/\bP w' (fun k=>F k\/(w.heap.size<=k/\k<w'.heap.size)) f y (iQ ind D)/\w.grownBy w' none:=by
 have HR:Hid (∀ W:World,w.grownBy W none->_):=fun W (g:w.grownBy W none)=>rN v D F W (hp.at (fun _ h=>h) g.size (fun k h=>g.block k (hF k h) (by simp))) (fun k h=>Nat.lt_of_lt_of_le (hF k h) g.size) hl;have ci:=hs.i;obtain ⟨a,cap,hv,_,_⟩:=hp.sl;subst hv;clear hp hs
 go_enter func130,ntmps130
 obtain ⟨I,hI⟩:∃ I:World->Prop,I=(fun W:World=>W.cell? ⟨bs,1,none⟩=some (.int .i64 ind)):=⟨_,rfl⟩;have A:I w.drew:=(by rw [hI];exact ci);have gd:w.grownBy w.drew none:=⟨rfl,rfl,rfl,Nat.le_refl _,fun _ _ _=>rfl⟩;have J:∀ (U U':World),I U->U.grownBy U' none->I U':=fun U U' h g=>by rw [hI] at h ⊢;exact g.cell h (by simp)
 go_wp2;refine aZ I (fun _=>false) (by kernel_rfl) ?_
 show fJ _ _ _ _ _ _ 10 (Array.replicate 10 false) _ _
 refine bK (i:=0) (.pointer (some ⟨bs,0,none⟩)) rfl A (bB rfl (fun W Z=>by go_simp)) ?_;refine bK (i:=1) (.pointer (some ⟨bs,0,none⟩)) rfl A (bB rfl (fun W Z=>by go_simp)) ?_;refine bK (i:=2) (.pointer (some ⟨bs,1,none⟩)) rfl A (bB rfl (fun W Z=>by go_simp)) ?_;refine bK (i:=3) (.int .i64 ind) rfl A (bB rfl (fun W Z=>by rw [hI] at Z;have h1:=Z;go_simp)) ?_;refine bK (i:=4) (.agg #[.int .i64 7,.slice none 0 0,.int .i64 ind]) rfl A (bB rfl (fun W Z=>by go_simp)) ?_;refine bK (i:=5) (.slice a D.length cap) rfl A (bB rfl (fun W Z=>by go_simp)) ?_;generalize hG:Act.put _ _ _=A0;simp [Act.put] at hG;subst hG;refine aD (i:=6) (by kernel_rfl) (dY rfl rfl (by go_simp) (HR.out w.drew gd) ?_);rintro e w1 ⟨f,y,rfl,a8,g1⟩;have X:=J _ _ A g1;refine ⟨_,rfl,.inr X,?_⟩;have O:=aA gd g1;have S:∀ k,(F k\/(w.drew.heap.size<=k/\k<w1.heap.size))->k<w1.heap.size:=fun k G=>G.elim (fun h=>Nat.lt_of_lt_of_le (hF k h) O.size) (fun h=>h.2);have a5:=aJ2 a8 S;have gA:=World.grownBy_alloc w1 (Obj.cells #[.func (.func f) #[] y] 56) none;have Y:=J _ _ X gA;have a9:=aB (lO 7 ind _ _ _ _ a5 (fun k G=>G.elim (fun h=>by have:=S k h;simp;omega) (fun h=>by simp;omega)) (by simp));refine aD (i:=7) (by kernel_rfl) (aF (w':=w1.alloc (Obj.cells #[.func (.func f) #[] y] 56)) (v:=.slice (some ⟨w1.heap.size,0,none⟩) 1 1) rfl rfl (by go_simp) ⟨.inr Y,?_⟩);refine aD (i:=8) (by kernel_rfl) (dY rfl rfl (by go_simp) a9.out ?_);rintro e w2 ⟨f2,E,rfl,a6,g2⟩;have N:=J _ _ Y g2;refine ⟨_,rfl,.inr N,?_⟩;refine aD (i:=9) (by kernel_rfl) (aF (w':=w2) (v:=.func (.func f2) #[] E) rfl rfl (by go_simp) ⟨.inr N,?_⟩);refine bL (by kernel_rfl) ?_ _;have b9:=aB a6;have b7:=aB (aA (aA O gA) g2);have c6:=O.size;have c0:=g2.size;subst hI;clear a9 a5 a8 a6 g1 g2 gA HR J S A X Y N;go_wp2;go_ret;refine ⟨f2,E,rfl,?_,b7.out⟩;have M:=b9.out;rw [show [cV D].flatten++[(⟨7,[],ind⟩:Pc)]=iQ ind D by simp [iQ]] at M;simp at c0;refine M.at (fun k G=>?_) (fun _ _=>rfl);rcases G with (G | G) | G
 ·rcases G with h | h
  ·exact .inl h
  ·have h1:=h.1;have h2:=h.2;exact .inr ⟨h1,by omega⟩
 ·exact .inr ⟨by omega,by omega⟩
 ·have h1:=G.1;simp at h1;exact .inr ⟨by omega,G.2⟩
end Go.Proofs.YtmfehflibkokbaaGreatDoor
namespace Go.Proofs.YtmfehflibkokbaaGreatDoor
open Go.Proofs.Tryz
open Go.RowKit
structure Sx (bs B:Nat) (ind m:Int) (w:World) (nv:Value) (R:List Nod):Prop where
 shp:Shp w bs nv ind
 rd:RdN B w nv R
 tab:Tab w
 mx:w.cell? ⟨1,0,none⟩=some (.int .i64 m)
theorem Sx.K {y B:Nat} {ind m:Int} {w w':World} {nv:Value} {R:List Nod} (h:Sx y B ind m w nv R) (g:w.grownBy w' none):Sx y B ind m w' nv R:=⟨h.shp.K g,h.rd.K g,h.tab.K g,g.cell h.mx (by simp)⟩
theorem Sx.lt {y B:Nat} {ind m:Int} {w:World} {nv:Value} {R:List Nod} (h:Sx y B ind m w nv R):y+3<w.heap.size:=h.shp.sz
theorem oO {y B:Nat} {ind m:Int} {w w':World} {nv:Value} {R:List Nod} {r:Option Nat} (h:Sx y B ind m w nv R) (g:w.grownBy w' r) (D:∀ x,r=some x->y+3<x) (G:B<=y) (E:1<y):Sx y B ind m w' nv R:=by
 have A:∀ b,b<=y+3->some b≠r:=fun b J e=>by have:=D b e.symm;omega
 refine ⟨⟨Nat.lt_of_lt_of_le h.shp.sz g.size,g.cell h.shp.n (A y (by omega)),?_,g.cell h.shp.i (A y (by omega)),⟨g.cell h.shp.v0.1 (A y (by omega)),g.cell h.shp.v0.2 (A (y+1) (by omega))⟩,⟨g.cell h.shp.v1.1 (A y (by omega)),g.cell h.shp.v1.2 (A (y+2) (by omega))⟩,⟨g.cell h.shp.v2.1 (A y (by omega)),g.cell h.shp.v2.2 (A (y+3) (by omega))⟩,g.cell h.shp.v3 (A y (by omega)),g.cell h.shp.v4 (A y (by omega)),g.cell h.shp.v5 (A y (by omega)),g.cell h.shp.v6 (A y (by omega))⟩,h.rd.beside g (fun k e=>by have:=D k e;omega),⟨g.cell h.tab.c0 (A 0 (by omega)),g.cell h.tab.c1 (A 0 (by omega)),g.cell h.tab.c2 (A 0 (by omega)),g.cell h.tab.c3 (A 0 (by omega)),g.cell h.tab.c4 (A 0 (by omega))⟩,g.cell h.mx (A 1 (by omega))⟩;rw [World.frozen?_of_block (g.block y (World.block_lt_of_cell? w _ h.shp.n) (A y (by omega)))];exact h.shp.fz
def pA (bs B:Nat) (ind m:Int) (w:World) (ps:List Pc) (R2:List Nod) (e:Ending) (w':World):Prop:=
 ∃ f caps nv',e=.returned (.func (.func f) #[] caps)/\bP w' (fun k=>w.heap.size<=k/\k<w'.heap.size) f caps ps/\Sx bs B ind m w' nv' R2/\w.grownBy w' (some bs)
def aCf (bs B:Nat) (ind m:Int) (w:World) (dss:List (List Pc)) (R2:List Nod) (e:Ending) (w':World):Prop:=
 ∃ v' nv',e=.returned v'/\PoL w.heap.size w' v' dss/\Sx bs B ind m w' nv' R2/\w.grownBy w' (some bs)
theorem fL {a b:World} {r:Option Nat} (g:a.grownBy b none):a.grownBy b r:=⟨g.os,g.tape,g.output,g.size,fun k h _=>g.block k h (by simp)⟩
theorem aY {a b c:World} {r:Option Nat} {y:Nat} (h:a.grownBy b (some y)) (k:b.grownBy c r) (E:∀ j,r=some j->a.heap.size<=j\/j=y):a.grownBy c (some y):=
 ⟨k.os.trans h.os,k.tape.trans h.tape,k.output.trans h.output,Nat.le_trans h.size k.size,fun i D A=>(k.block i (Nat.lt_of_lt_of_le D h.size) (fun e=>by have:=E i e.symm;simp only [ne_eq,Option.some.injEq] at A;omega)).trans (h.block i D A)⟩
theorem aHk (ind:Int) (d:Nat) (m:Bool) (c:Nat) (R y:List Nod) (N:aO (aE bC d m) c (R,())=some (y,())) (M:∀ n∈R,n.k<5->n.C=0) :
  ∀ j,j<=c->cR (itK (aJ ind d) j R)<=wNs R/\(∃ P,R=P++bF (aJ ind d) j R)/\(j=c->bF (aJ ind d) j R=y)/\(j<c->aE bC d m (bF (aJ ind d) j R,())=some (bF (aJ ind d) (j+1) R,())):=by
 intro j E;have D:=lX (ind:=ind) (fun R y h G=>oJ ind d m R y h G) c _ y N M;obtain ⟨P,O⟩:=(gK (bU bC d m).1 (bU bC d m).2 j).2 _ _ (D j E);refine ⟨?_,⟨P,O⟩,fun e=>?_,fun S=>?_⟩
 ·obtain ⟨U,J,Y⟩:=uK (ind:=ind) (fun R y h G=>rL ind d m R y h G) j _ _ (D j E) M;have X:wNs R=wNs U+wNs (bF (aJ ind d) j R):=(by rw [<- vC,<- J]);omega
 ·subst e;have A:=D j E;rw [N] at A;simpa using A.symm
 ·have A:=D (j+1) (by omega);rw [mY,D j E,Option.bind_some] at A;exact A
structure NsK (R:List Nod):Prop where
 nd:∀ p∈R,fB fO nL p
 ok:∀ p∈R,xJ p
 cn:∀ p∈R,p.C<=9223372036854775807
 wt:wNs R<=2000000
theorem NsK.sub {R P S:List Nod} (h:NsK R) (e:R=P++S):NsK S:=
 ⟨fun p y=>h.nd p (by rw [e];exact List.mem_append_right _ y),fun p y=>h.ok p (by rw [e];exact List.mem_append_right _ y),fun p y=>h.cn p (by rw [e];exact List.mem_append_right _ y),by have:=h.wt;rw [e,vC] at this;omega⟩
theorem aFD {B:Nat} {D:World} {f f2:Nat} {A y:Array Value} {N J:List Pc} (O:B<=D.heap.size) (h:bP D (fun k=>B<=k/\k<D.heap.size) f A N) (S:bP D (fun k=>B<=k/\k<D.heap.size) f2 y J) :
  PaR (D.alloc (Obj.cells #[.func (.func f) #[] A,.func (.func f2) #[] y] 56)) (fun k=>B<=k/\k<(D.alloc (Obj.cells #[.func (.func f) #[] A,.func (.func f2) #[] y] 56)).heap.size) (.slice (some ⟨D.heap.size,0,none⟩) 2 2) [N,J]:=by
 have M:=World.grownBy_alloc D (Obj.cells #[.func (.func f) #[] A,.func (.func f2) #[] y] 56) none;refine ⟨_,2,rfl,Nat.le_refl _,by unfold maxLen;omega,fun _=>⟨D.heap.size,0,rfl,⟨O,by simp⟩,by simp,fun j d E=>?_⟩⟩
 match j,E with
 | 0,E=>simp at E;subst E;exact ⟨f,A,by simp [go_sem],h.at (fun k G=>⟨G.1,by simp;omega⟩) (fun k G=>M.block k G.2 (by simp))⟩
 | 1,E=>simp at E;subst E;exact ⟨f2,y,by simp [go_sem],S.at (fun k G=>⟨G.1,by simp;omega⟩) (fun k G=>M.block k G.2 (by simp))⟩
 | j+2,E=>simp at E
theorem rO {B:Nat} {A:World} {f:Nat} {y:Array Value} {G:List Pc} (M:B<=A.heap.size) (h:bP A (fun k=>B<=k/\k<A.heap.size) f y G) :
  PaR (A.alloc (Obj.cells #[.func (.func f) #[] y] 56)) (fun k=>B<=k/\k<(A.alloc (Obj.cells #[.func (.func f) #[] y] 56)).heap.size) (.slice (some ⟨A.heap.size,0,none⟩) 1 1) [G]:=by
 have J:=World.grownBy_alloc A (Obj.cells #[.func (.func f) #[] y] 56) none;refine ⟨_,1,rfl,Nat.le_refl _,by unfold maxLen;omega,fun _=>⟨A.heap.size,0,rfl,⟨M,by simp⟩,by simp,fun j d D=>?_⟩⟩
 match j,D with
 | 0,D=>simp at D;subst D;exact ⟨f,y,by simp [go_sem],h.at (fun k E=>⟨E.1,by simp;omega⟩) (fun k E=>J.block k E.2 (by simp))⟩
 | j+1,D=>simp at D
theorem aD4 {B:Nat} {M:World} {f f2 O N:Nat} {E y D A:Array Value} {Z X S U:List Pc} (hB:B<=M.heap.size) (h:bP M (fun k=>B<=k/\k<M.heap.size) f E Z) (h2:bP M (fun k=>B<=k/\k<M.heap.size) f2 y X) (h3:bP M (fun k=>B<=k/\k<M.heap.size) O D S) (h4:bP M (fun k=>B<=k/\k<M.heap.size) N A U) :
  PaR (M.alloc (Obj.cells #[.func (.func f) #[] E,.func (.func f2) #[] y,.func (.func O) #[] D,.func (.func N) #[] A] 56)) (fun k=>B<=k/\k<(M.alloc (Obj.cells #[.func (.func f) #[] E,.func (.func f2) #[] y,.func (.func O) #[] D,.func (.func N) #[] A] 56)).heap.size) (.slice (some ⟨M.heap.size,0,none⟩) 4 4) [Z,X,S,U]:=by
 have Y:=World.grownBy_alloc M (Obj.cells #[.func (.func f) #[] E,.func (.func f2) #[] y,.func (.func O) #[] D,.func (.func N) #[] A] 56) none;refine ⟨_,4,rfl,Nat.le_refl _,by unfold maxLen;omega,fun _=>⟨M.heap.size,0,rfl,⟨hB,by simp⟩,by simp,fun j d J=>?_⟩⟩
 match j,J with
 | 0,J=>simp at J;subst J;exact ⟨f,E,by simp [go_sem],h.at (fun k G=>⟨G.1,by simp;omega⟩) (fun k G=>Y.block k G.2 (by simp))⟩
 | 1,J=>simp at J;subst J;exact ⟨f2,y,by simp [go_sem],h2.at (fun k G=>⟨G.1,by simp;omega⟩) (fun k G=>Y.block k G.2 (by simp))⟩
 | 2,J=>simp at J;subst J;exact ⟨O,D,by simp [go_sem],h3.at (fun k G=>⟨G.1,by simp;omega⟩) (fun k G=>Y.block k G.2 (by simp))⟩
 | 3,J=>simp at J;subst J;exact ⟨N,A,by simp [go_sem],h4.at (fun k G=>⟨G.1,by simp;omega⟩) (fun k G=>Y.block k G.2 (by simp))⟩
 | j+4,J=>simp at J
theorem bP.moreB {E G:World} {A B:Nat} {f:Nat} {y:Array Value} {J:List Pc} (h:bP E (fun k=>A<=k/\k<E.heap.size) f y J) (M:B<=A) (g:E.grownBy G none):bP G (fun k=>B<=k/\k<G.heap.size) f y J:=
 h.at (fun k D=>⟨Nat.le_trans M D.1,Nat.lt_of_lt_of_le D.2 g.size⟩) (fun k D=>g.block k D.2 (by simp))
end Go.Proofs.YtmfehflibkokbaaGreatDoor
