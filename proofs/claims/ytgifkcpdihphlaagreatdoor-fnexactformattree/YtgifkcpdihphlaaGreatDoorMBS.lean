import Derived.Test.YtgifkcpdihphlaaGreatDoorMBR
set_option maxHeartbeats 16000000
set_option maxRecDepth 100000
namespace Go.Proofs.YtgifkcpdihphlaaGreatDoor
open Tryz
open Go.RowKit
attribute [-go_sem] Builtin.append_
theorem jO (W:World) (b o:Nat) (x:Value) (f:Fn) (p c:Array Value) (h:W.cell? ⟨b,o,none⟩=some x) (j:W.frozen? ⟨b,o,none⟩=false):(store ⟨b,o,none⟩ (.func f p c)).run prog W=.ok () (W.setCell ⟨b,o,none⟩ (.func f p c)):=by
 rw [run_store prog W _ _ _ rfl,h];simp [j]
abbrev aL0:List Int:=[110,117,108,108]
abbrev aL7:List Int:=[116,114,117,101]
abbrev aMz:List Int:=[102,97,108,115,101]
structure Shp (w:World) (bs:Nat) (nv:Value) (ind:Int):Prop where
 sz:bs+3<w.heap.size
 n:w.cell? ⟨bs,0,none⟩=some nv
 fz:w.frozen? ⟨bs,0,none⟩=false
 i:w.cell? ⟨bs,1,none⟩=some (.int .i64 ind)
 v0:w.cell? ⟨bs,2,none⟩=some (.func (.func 115) #[] #[.pointer (some ⟨bs+1,0,none⟩)])/\w.cell? ⟨bs+1,0,none⟩=some (.string (strOfNums aL0))
 v1:w.cell? ⟨bs,3,none⟩=some (.func (.func 115) #[] #[.pointer (some ⟨bs+2,0,none⟩)])/\w.cell? ⟨bs+2,0,none⟩=some (.string (strOfNums aL7))
 v2:w.cell? ⟨bs,4,none⟩=some (.func (.func 115) #[] #[.pointer (some ⟨bs+3,0,none⟩)])/\w.cell? ⟨bs+3,0,none⟩=some (.string (strOfNums aMz))
 v3:w.cell? ⟨bs,5,none⟩=some (.func (.func 82) #[] #[])
 v4:w.cell? ⟨bs,6,none⟩=some (.func (.func 83) #[] #[])
 v5:w.cell? ⟨bs,7,none⟩=some (.func (.func 84) #[.pointer (some ⟨bs,0,none⟩)] #[])
 v6:w.cell? ⟨bs,8,none⟩=some (.func (.func 85) #[.pointer (some ⟨bs,0,none⟩)] #[])
theorem Shp.K {w w':World} {j:Nat} {nv:Value} {ind:Int} (h:Shp w j nv ind) (g:w.grownBy w' none):Shp w' j nv ind:=
 ⟨Nat.lt_of_lt_of_le h.sz g.size,g.cell h.n (by simp),by rw [World.frozen?_of_block (g.block j (World.block_lt_of_cell? w _ h.n) (by simp))];exact h.fz,g.cell h.i (by simp),⟨g.cell h.v0.1 (by simp),g.cell h.v0.2 (by simp)⟩,⟨g.cell h.v1.1 (by simp),g.cell h.v1.2 (by simp)⟩,⟨g.cell h.v2.1 (by simp),g.cell h.v2.2 (by simp)⟩,g.cell h.v3 (by simp),g.cell h.v4 (by simp),g.cell h.v5 (by simp),g.cell h.v6 (by simp)⟩
theorem Shp.turn {w:World} {y:Nat} {nv:Value} {ind:Int} (h:Shp w y nv ind) (u:Value):Shp (w.setCell ⟨y,0,none⟩ u) y u ind:=by
 have c:∀ b j,(b≠y\/j≠0)->(w.setCell ⟨y,0,none⟩ u).cell? ⟨b,j,none⟩=w.cell? ⟨b,j,none⟩:=fun b j E=>World.cell?_setCell_other _ _ _ _ (by intro e;have A:=congrArg Addr.block e;have D:=congrArg Addr.off e;simp only at A D;omega);refine ⟨by simpa using h.sz,by have:=h.n;simp [go_sem,this],by simpa using h.fz,by rw [c _ _ (.inr (by omega))];exact h.i,⟨by rw [c _ _ (.inr (by omega))];exact h.v0.1,by rw [c _ _ (.inl (by omega))];exact h.v0.2⟩,⟨by rw [c _ _ (.inr (by omega))];exact h.v1.1,by rw [c _ _ (.inl (by omega))];exact h.v1.2⟩,⟨by rw [c _ _ (.inr (by omega))];exact h.v2.1,by rw [c _ _ (.inl (by omega))];exact h.v2.2⟩,by rw [c _ _ (.inr (by omega))];exact h.v3,by rw [c _ _ (.inr (by omega))];exact h.v4,by rw [c _ _ (.inr (by omega))];exact h.v5,by rw [c _ _ (.inr (by omega))];exact h.v6⟩
theorem aBl (a:Option Addr) (L cap:Nat) (ind:Int) (w:World) :
  Calls prog 49 #[.slice a L cap,.int .i64 ind] w fun e w'=>e=.returned (.pointer (some ⟨w.heap.size,0,none⟩))/\Shp w' w.heap.size (.slice a L cap) ind/\w.grownBy w' none:=by
 obtain ⟨N,E⟩:∃ N,N=(((w.alloc (Obj.cells #[.slice a L cap,.int .i64 ind,.nilFunc,.nilFunc,.nilFunc,.nilFunc,.nilFunc,.nilFunc,.nilFunc] 137)).alloc (Obj.cells #[.string { data:=#[110,117,108,108] }] 9)).alloc (Obj.cells #[.string { data:=#[116,114,117,101] }] 9)).alloc (Obj.cells #[.string { data:=#[102,97,108,115,101] }] 9):=⟨_,rfl⟩;have S:∀ j,N.frozen? ⟨w.heap.size,j,none⟩=false:=fun j=>by rw [E];simp [go_sem]
 have hg:w.grownBy N none:=(by rw [E];exact aA (aA (aA gWA gWA) gWA) gWA);have q0:N.cell? ⟨w.heap.size,0,none⟩=some (.slice a L cap):=(by rw [E];simp [go_sem]);have q1:N.cell? ⟨w.heap.size,1,none⟩=some (.int .i64 ind):=(by rw [E];simp [go_sem]);have q2:N.cell? ⟨w.heap.size,2,none⟩=some .nilFunc:=(by rw [E];simp [go_sem]);have q3:N.cell? ⟨w.heap.size,3,none⟩=some .nilFunc:=(by rw [E];simp [go_sem]);have q4:N.cell? ⟨w.heap.size,4,none⟩=some .nilFunc:=(by rw [E];simp [go_sem]);have q5:N.cell? ⟨w.heap.size,5,none⟩=some .nilFunc:=(by rw [E];simp [go_sem]);have q6:N.cell? ⟨w.heap.size,6,none⟩=some .nilFunc:=(by rw [E];simp [go_sem]);have q7:N.cell? ⟨w.heap.size,7,none⟩=some .nilFunc:=(by rw [E];simp [go_sem]);have q8:N.cell? ⟨w.heap.size,8,none⟩=some .nilFunc:=(by rw [E];simp [go_sem]);have t0:N.cell? ⟨w.heap.size+1,0,none⟩=some (.string { data:=#[110,117,108,108] }):=(by rw [E];simp [go_sem]);have t1:N.cell? ⟨w.heap.size+1+1,0,none⟩=some (.string { data:=#[116,114,117,101] }):=(by rw [E];simp [go_sem]);have t2:N.cell? ⟨w.heap.size+1+1+1,0,none⟩=some (.string { data:=#[102,97,108,115,101] }):=(by rw [E];simp [go_sem]);obtain ⟨Z,y⟩:∃ Z,Z=N.setCell ⟨w.heap.size,2,none⟩ (.func (.func 115) #[] #[.pointer (some ⟨w.heap.size+1,0,none⟩)]):=⟨_,rfl⟩;have e1:(store ⟨w.heap.size,2,none⟩ (.func (.func 115) #[] #[.pointer (some ⟨w.heap.size+1,0,none⟩)])).run prog N=.ok () Z:=(by rw [y];exact jO N _ _ _ _ _ _ q2 (S 2));obtain ⟨Y,A⟩:∃ Y,Y=Z.setCell ⟨w.heap.size,3,none⟩ (.func (.func 115) #[] #[.pointer (some ⟨w.heap.size+1+1,0,none⟩)]):=⟨_,rfl⟩;have p2:Z.cell? ⟨w.heap.size,3,none⟩=some .nilFunc:=(by rw [y,World.cell?_setCell_other _ _ _ _ (by intro e;have u:=congrArg Addr.off e;simp only at u;omega)];exact q3);have e2:(store ⟨w.heap.size,3,none⟩ (.func (.func 115) #[] #[.pointer (some ⟨w.heap.size+1+1,0,none⟩)])).run prog Z=.ok () Y:=(by rw [A];exact jO Z _ _ _ _ _ _ p2 (by rw [y];simpa using S 3));obtain ⟨W3,D⟩:∃ W3,W3=Y.setCell ⟨w.heap.size,4,none⟩ (.func (.func 115) #[] #[.pointer (some ⟨w.heap.size+1+1+1,0,none⟩)]):=⟨_,rfl⟩;have p3:Y.cell? ⟨w.heap.size,4,none⟩=some .nilFunc:=(by rw [A,World.cell?_setCell_other _ _ _ _ (by intro e;have u:=congrArg Addr.off e;simp only at u;omega)];rw [y,World.cell?_setCell_other _ _ _ _ (by intro e;have u:=congrArg Addr.off e;simp only at u;omega)];exact q4);have e3:(store ⟨w.heap.size,4,none⟩ (.func (.func 115) #[] #[.pointer (some ⟨w.heap.size+1+1+1,0,none⟩)])).run prog Y=.ok () W3:=(by rw [D];exact jO Y _ _ _ _ _ _ p3 (by rw [A,y];simpa using S 4));obtain ⟨X,G⟩:∃ X,X=W3.setCell ⟨w.heap.size,5,none⟩ (.func (.func 82) #[] #[]):=⟨_,rfl⟩;have p4:W3.cell? ⟨w.heap.size,5,none⟩=some .nilFunc:=(by rw [D,World.cell?_setCell_other _ _ _ _ (by intro e;have u:=congrArg Addr.off e;simp only at u;omega)];rw [A,World.cell?_setCell_other _ _ _ _ (by intro e;have u:=congrArg Addr.off e;simp only at u;omega)];rw [y,World.cell?_setCell_other _ _ _ _ (by intro e;have u:=congrArg Addr.off e;simp only at u;omega)];exact q5);have e4:(store ⟨w.heap.size,5,none⟩ (.func (.func 82) #[] #[])).run prog W3=.ok () X:=(by rw [G];exact jO W3 _ _ _ _ _ _ p4 (by rw [D,A,y];simpa using S 5));obtain ⟨W5,H⟩:∃ W5,W5=X.setCell ⟨w.heap.size,6,none⟩ (.func (.func 83) #[] #[]):=⟨_,rfl⟩;have p5:X.cell? ⟨w.heap.size,6,none⟩=some .nilFunc:=(by rw [G,World.cell?_setCell_other _ _ _ _ (by intro e;have u:=congrArg Addr.off e;simp only at u;omega)];rw [D,World.cell?_setCell_other _ _ _ _ (by intro e;have u:=congrArg Addr.off e;simp only at u;omega)];rw [A,World.cell?_setCell_other _ _ _ _ (by intro e;have u:=congrArg Addr.off e;simp only at u;omega)];rw [y,World.cell?_setCell_other _ _ _ _ (by intro e;have u:=congrArg Addr.off e;simp only at u;omega)];exact q6);have e5:(store ⟨w.heap.size,6,none⟩ (.func (.func 83) #[] #[])).run prog X=.ok () W5:=(by rw [H];exact jO X _ _ _ _ _ _ p5 (by rw [G,D,A,y];simpa using S 6));obtain ⟨W6,J⟩:∃ W6,W6=W5.setCell ⟨w.heap.size,7,none⟩ (.func (.func 84) #[.pointer (some ⟨w.heap.size,0,none⟩)] #[]):=⟨_,rfl⟩;have p6:W5.cell? ⟨w.heap.size,7,none⟩=some .nilFunc:=(by rw [H,World.cell?_setCell_other _ _ _ _ (by intro e;have u:=congrArg Addr.off e;simp only at u;omega)];rw [G,World.cell?_setCell_other _ _ _ _ (by intro e;have u:=congrArg Addr.off e;simp only at u;omega)];rw [D,World.cell?_setCell_other _ _ _ _ (by intro e;have u:=congrArg Addr.off e;simp only at u;omega)];rw [A,World.cell?_setCell_other _ _ _ _ (by intro e;have u:=congrArg Addr.off e;simp only at u;omega)];rw [y,World.cell?_setCell_other _ _ _ _ (by intro e;have u:=congrArg Addr.off e;simp only at u;omega)];exact q7);have e6:(store ⟨w.heap.size,7,none⟩ (.func (.func 84) #[.pointer (some ⟨w.heap.size,0,none⟩)] #[])).run prog W5=.ok () W6:=(by rw [J];exact jO W5 _ _ _ _ _ _ p6 (by rw [H,G,D,A,y];simpa using S 7));obtain ⟨W7,M⟩:∃ W7,W7=W6.setCell ⟨w.heap.size,8,none⟩ (.func (.func 85) #[.pointer (some ⟨w.heap.size,0,none⟩)] #[]):=⟨_,rfl⟩;have p7:W6.cell? ⟨w.heap.size,8,none⟩=some .nilFunc:=(by rw [J,World.cell?_setCell_other _ _ _ _ (by intro e;have u:=congrArg Addr.off e;simp only at u;omega)];rw [H,World.cell?_setCell_other _ _ _ _ (by intro e;have u:=congrArg Addr.off e;simp only at u;omega)];rw [G,World.cell?_setCell_other _ _ _ _ (by intro e;have u:=congrArg Addr.off e;simp only at u;omega)];rw [D,World.cell?_setCell_other _ _ _ _ (by intro e;have u:=congrArg Addr.off e;simp only at u;omega)];rw [A,World.cell?_setCell_other _ _ _ _ (by intro e;have u:=congrArg Addr.off e;simp only at u;omega)];rw [y,World.cell?_setCell_other _ _ _ _ (by intro e;have u:=congrArg Addr.off e;simp only at u;omega)];exact q8);have e7:(store ⟨w.heap.size,8,none⟩ (.func (.func 85) #[.pointer (some ⟨w.heap.size,0,none⟩)] #[])).run prog W6=.ok () W7:=by rw [M];exact jO W6 _ _ _ _ _ _ p7 (by rw [J,H,G,D,A,y];simpa using S 8)
 have O:∀ b j,(b≠w.heap.size\/j<2)->W7.cell? ⟨b,j,none⟩=N.cell? ⟨b,j,none⟩:=fun b j hj=>by
  rw [M,J,H,G,D,A,y];have ne:∀ (U:World) (o:Nat) (x:Value),2<=o->(U.setCell ⟨w.heap.size,o,none⟩ x).cell? ⟨b,j,none⟩=U.cell? ⟨b,j,none⟩:=fun U o x ho=>World.cell?_setCell_other _ _ _ _ (by intro e;have h1:=congrArg Addr.block e;have u:=congrArg Addr.off e;simp only at h1 u;omega);rw [ne _ _ _ (by omega),ne _ _ _ (by omega),ne _ _ _ (by omega),ne _ _ _ (by omega),ne _ _ _ (by omega),ne _ _ _ (by omega),ne _ _ _ (by omega)]
 have h:∀ (U:World) (o o':Nat) (x:Value),o≠o'->(U.setCell ⟨w.heap.size,o,none⟩ x).cell? ⟨w.heap.size,o',none⟩=U.cell? ⟨w.heap.size,o',none⟩:=fun U o o' x ho=>World.cell?_setCell_other _ _ _ _ (by intro e;have u:=congrArg Addr.off e;simp only at u;omega)
 have b4:Hid (Shp W7 w.heap.size (.slice a L cap) ind):=by
  refine ⟨by rw [M,J,H,G,D,A,y,E];simp,by rw [O _ _ (.inr (by omega))];exact q0,by rw [M,J,H,G,D,A,y];simpa using S 0,by rw [O _ _ (.inr (by omega))];exact q1,⟨?_,by rw [O _ _ (.inl (by omega))];exact t0⟩,⟨?_,by rw [O _ _ (.inl (by omega))];exact t1⟩,⟨?_,by rw [O _ _ (.inl (by omega))];exact t2⟩,?_,?_,?_,?_⟩
  ·rw [M,h _ _ _ _ (by omega),J,h _ _ _ _ (by omega),H,h _ _ _ _ (by omega),G,h _ _ _ _ (by omega),D,h _ _ _ _ (by omega),A,h _ _ _ _ (by omega),y];simp [go_sem,q2]
  ·rw [M,h _ _ _ _ (by omega),J,h _ _ _ _ (by omega),H,h _ _ _ _ (by omega),G,h _ _ _ _ (by omega),D,h _ _ _ _ (by omega),A];simp [go_sem,p2]
  ·rw [M,h _ _ _ _ (by omega),J,h _ _ _ _ (by omega),H,h _ _ _ _ (by omega),G,h _ _ _ _ (by omega),D];simp [go_sem,p3]
  ·rw [M,h _ _ _ _ (by omega),J,h _ _ _ _ (by omega),H,h _ _ _ _ (by omega),G];simp [go_sem,p4]
  ·rw [M,h _ _ _ _ (by omega),J,h _ _ _ _ (by omega),H];simp [go_sem,p5]
  ·rw [M,h _ _ _ _ (by omega),J];simp [go_sem,p6]
  ·rw [M];simp [go_sem,p7]
 have b1:Hid (w.grownBy W7 none):=by
  have hB:=(aO hg);unfold Hid;rw [M,J,H,G,D,A,y];exact aC (((((((hB.setCell (by simp) _).setCell (by simp) _).setCell (by simp) _).setCell (by simp) _).setCell (by simp) _).setCell (by simp) _).setCell (by simp) _)
 rw [E] at e1;clear O h M J H G D A y q0 q1 q2 q3 q4 q5 q6 q7 q8 t0 t1 t2 S hg p2 p3 p4 p5 p6 p7 E
 go_enter func49,ntmps49
 go_wp2;go_ret;exact ⟨rfl,b4.out,b1.out⟩
def mW (w:World) (ps:List Pc) (e:Ending) (w':World):Prop:=∃ f caps,e=.returned (.func (.func f) #[] caps)/\bT w' (fun k=>w.heap.size<=k/\k<w'.heap.size) f caps ps/\w.grownBy w' none
theorem mW.from {w w0:World} {ps:List Pc} {e:Ending} {w':World} (h:mW w0 ps e w') (g:w.grownBy w0 none):mW w ps e w':=by
 obtain ⟨f,j,A,D,y⟩:=h;exact ⟨f,j,A,D.at (fun k u=>⟨Nat.le_trans g.size u.1,u.2⟩) (fun _ _=>rfl),aA g y⟩
theorem tP (p:Nod) (lv H E M tv:Value) (b:Nat) (h:List Int) (hb:Bys h) (hn:h.length<=1000) (w:World) (J:w.cell? ⟨b,0,none⟩=some (.string (strOfNums h)))
  (sl:Sl lv p.L.length) (sk:Sl H p.key.length) (sx:Sl E p.X.length) (N:Sl M p.U.length) (st:Sl tv p.tail.length) :
  Calls prog 115 #[.agg #[.int .i64 p.k,lv,.bool p.mem,H,E,M,.int .i64 p.C,tv],.pointer (some ⟨b,0,none⟩)] w fun e w'=>mW w (aG h) e w':=by
 obtain ⟨la,lc,rfl,_⟩:=sl;obtain ⟨ka,kc,rfl,_⟩:=sk;obtain ⟨S,xc,rfl,_⟩:=sx;obtain ⟨Z,uc,rfl,_⟩:=N;obtain ⟨ta,O,rfl,_⟩:=st;obtain ⟨W,A⟩:∃ W,W=w.alloc (Obj.cells #[.int .i64 p.k,.slice la p.L.length lc,.bool p.mem,.slice ka p.key.length kc,.slice S p.X.length xc,.slice Z p.U.length uc,.int .i64 p.C,.slice ta p.tail.length O] 49):=⟨_,rfl⟩;have u:w.grownBy W none:=(by rw [A];exact gWA);have D:=aB (cI h hb (by omega) W);have y:=u.cell J (by simp);have HG:=aB u;subst A;clear u J
 go_enter func115,ntmps115
 go_wp2_with fail
 refine D.out.mono ?_;rintro e w1 ⟨f,j,rfl,G,g⟩;have Y:=aB (show mW _ (aG h) _ w1 from ⟨f,j,rfl,G,g⟩);clear D G g y;go_wp2;go_ret;exact Y.out.from HG.out
theorem aFr (p:Nod) (lv H y J tv:Value) (w:World) (E:RdB w.heap.size w y p.X) (sx:Sl y p.X.length) (hb:Bys p.X) (hn:p.X.length<=1048576)
  (sl:Sl lv p.L.length) (sk:Sl H p.key.length) (M:Sl J p.U.length) (st:Sl tv p.tail.length) :
  Calls prog 82 #[.agg #[.int .i64 p.k,lv,.bool p.mem,H,y,J,.int .i64 p.C,tv]] w fun e w'=>mW w (aG p.X) e w':=by
 obtain ⟨la,lc,rfl,_⟩:=sl;obtain ⟨ka,kc,rfl,_⟩:=sk;obtain ⟨O,xc,rfl,_⟩:=sx;obtain ⟨Y,uc,rfl,_⟩:=M;obtain ⟨ta,N,rfl,_⟩:=st;obtain ⟨W,A⟩:∃ W,W=w.alloc (Obj.cells #[.int .i64 p.k,.slice la p.L.length lc,.bool p.mem,.slice ka p.key.length kc,.slice O p.X.length xc,.slice Y p.U.length uc,.int .i64 p.C,.slice ta p.tail.length N] 49):=⟨_,rfl⟩;have u:w.grownBy W none:=(by rw [A];exact gWA);have h:=qB (E.K u);have D:=aB (cI p.X hb (by omega) W);have HG:=aB u;subst A;clear E u
 go_enter func82,ntmps82
 go_wp2_with fail
 refine D.out.mono ?_;rintro e Z ⟨f,j,rfl,G,g⟩;have S:=aB (show mW _ (aG p.X) _ Z from ⟨f,j,rfl,G,g⟩);clear D G g h;go_wp2;go_ret;exact S.out.from HG.out
theorem aE2 (p:Nod) (lv N J u tv:Value) (w:World) (hT:Tab w) (O:RdI w.heap.size w u p.U) (Y:Sl u p.U.length) (hn:p.U.length<=1048576)
  (sl:Sl lv p.L.length) (sk:Sl N p.key.length) (sx:Sl J p.X.length) (st:Sl tv p.tail.length) :
  Calls prog 83 #[.agg #[.int .i64 p.k,lv,.bool p.mem,N,J,u,.int .i64 p.C,tv]] w fun e w'=>mW w (aG (quR p.U).1) e w':=by
 obtain ⟨la,lc,rfl,_⟩:=sl;obtain ⟨ka,kc,rfl,_⟩:=sk;obtain ⟨xa,xc,rfl,_⟩:=sx;obtain ⟨D,S,rfl,_⟩:=Y;obtain ⟨ta,Z,rfl,_⟩:=st;obtain ⟨W,y⟩:∃ W,W=w.alloc (Obj.cells #[.int .i64 p.k,.slice la p.L.length lc,.bool p.mem,.slice ka p.key.length kc,.slice xa p.X.length xc,.slice D p.U.length S,.int .i64 p.C,.slice ta p.tail.length Z] 49):=⟨_,rfl⟩;have h:w.grownBy W none:=(by rw [y];exact gWA);have A:=aB (rF (.slice D p.U.length S) p.U W (hT.K h) ((O.K h).wideC h.size) hn);have b6:=aDl p.U;have G:Hid (∀ W:World,_):=fun W=>cI (quR p.U).1 (aGO _) (by omega) W;have HG:=aB h;subst y;clear O h
 go_enter func83,ntmps83
 go_wp2_with fail
 refine A.out.mono ?_;rintro e H ⟨rfl,E⟩;have G1:=aB (aA HG.out E);clear A E
 go_wp2_with fail
 refine (G.out H).mono ?_;rintro e w2 ⟨f,j,rfl,M,g⟩;have HP:=aB (show mW H (aG (quR p.U).1) _ w2 from ⟨f,j,rfl,M,g⟩);clear G M g;go_wp2;go_ret;exact HP.out.from G1.out
theorem aLa {w:World} {F:Nat->Prop} {f:Nat} {u:Array Value} {D:List Pc} (h:bT w F f u D) (E:∀ k,F k->k<w.heap.size) :
  PaR (w.alloc (Obj.cells #[.func (.func f) #[] u] 92)) (fun k=>F k\/k=w.heap.size) (.slice (some ⟨w.heap.size,0,none⟩) 1 1) [D]:=by
 have G:=World.grownBy_alloc w (Obj.cells #[.func (.func f) #[] u] 92) none;refine ⟨_,1,rfl,Nat.le_refl _,by unfold maxLen;omega,fun _=>⟨w.heap.size,0,rfl,.inr rfl,by simp,fun j d y=>?_⟩⟩
 match j,y with
 | 0,y=>simp at y;subst y;exact ⟨f,u,by simp [go_sem],h.at (fun k A=>.inl A) (fun k A=>G.block k (E k A) (by simp))⟩
 | j+1,y=>simp at y
theorem aEA (S:Nat) (nv:Value) (ind:Int) (v:Value) (y:List (List Pc)) (F:Nat->Prop) (w:World) (hs:Shp w S nv ind) (hp:PaR w F v y) (hF:∀ k,F k->k<w.heap.size) (hl:y.length<=1000000000) :
  Calls prog 145 #[.pointer (some ⟨S,0,none⟩),v] w fun e w'=>∃ f u,e=.returned (.func (.func f) #[] u)/\bT w' (fun k=>F k\/(w.heap.size<=k/\k<w'.heap.size)) f u (fM ind y)/\w.grownBy w' none:=by
 have HR:Hid (∀ W:World,w.grownBy W none->_):=fun W (g:w.grownBy W none)=>rU v y F W (hp.at (fun _ h=>h) g.size (fun k h=>g.block k (hF k h) (by simp))) (fun k h=>Nat.lt_of_lt_of_le (hF k h) g.size) hl;have ci:=hs.i;obtain ⟨a,cap,hv,_,_⟩:=hp.sl;subst hv;clear hp hs
 go_enter func145,ntmps145
 obtain ⟨I,hI⟩:∃ I:World->Prop,I=(fun W:World=>W.cell? ⟨S,1,none⟩=some (.int .i64 ind)):=⟨_,rfl⟩;have j:I w.drew:=(by rw [hI];exact ci);have gd:w.grownBy w.drew none:=⟨rfl,rfl,rfl,Nat.le_refl _,fun _ _ _=>rfl⟩;have E:∀ (U U':World),I U->U.grownBy U' none->I U':=fun U U' h g=>by rw [hI] at h ⊢;exact g.cell h (by simp)
 go_wp2;refine cS I (fun _=>false) (by kernel_rfl) ?_
 show kZ _ _ _ _ _ _ 10 (Array.replicate 10 false) _ _
 refine bE (i:=0) (.pointer (some ⟨S,0,none⟩)) rfl j (cC rfl (fun W J=>by go_simp)) ?_;refine bE (i:=1) (.pointer (some ⟨S,0,none⟩)) rfl j (cC rfl (fun W J=>by go_simp)) ?_;refine bE (i:=2) (.pointer (some ⟨S,1,none⟩)) rfl j (cC rfl (fun W J=>by go_simp)) ?_;refine bE (i:=3) (.int .i64 ind) rfl j (cC rfl (fun W J=>by rw [hI] at J;have h1:=J;go_simp)) ?_;refine bE (i:=4) (.agg #[.int .i64 7,.slice none 0 0,.int .i64 ind]) rfl j (cC rfl (fun W J=>by go_simp)) ?_;refine bE (i:=5) (.slice a y.length cap) rfl j (cC rfl (fun W J=>by go_simp)) ?_;generalize hG:Act.put _ _ _=A0;simp [Act.put] at hG;subst hG;refine aL (i:=6) (by kernel_rfl) (eC rfl rfl (by go_simp) (HR.out w.drew gd) ?_);rintro e Y ⟨f,u,rfl,Z,g1⟩;have M:=E _ _ j g1;refine ⟨_,rfl,.inr M,?_⟩;have O:=aA gd g1;have N:∀ k,(F k\/(w.drew.heap.size<=k/\k<Y.heap.size))->k<Y.heap.size:=fun k D=>D.elim (fun h=>Nat.lt_of_lt_of_le (hF k h) O.size) (fun h=>h.2);have a4:=aLa Z N;have gA:=World.grownBy_alloc Y (Obj.cells #[.func (.func f) #[] u] 92) none;have H:=E _ _ M gA;have a5:=aB (mC 7 ind _ _ _ _ a4 (fun k D=>D.elim (fun h=>by have:=N k h;simp;omega) (fun h=>by simp;omega)) (by simp));refine aL (i:=7) (by kernel_rfl) (bM (w':=Y.alloc (Obj.cells #[.func (.func f) #[] u] 92)) (v:=.slice (some ⟨Y.heap.size,0,none⟩) 1 1) rfl rfl (by go_simp) ⟨.inr H,?_⟩);refine aL (i:=8) (by kernel_rfl) (eC rfl rfl (by go_simp) a5.out ?_);rintro e w2 ⟨f2,A,rfl,X,g2⟩;have L:=E _ _ H g2;refine ⟨_,rfl,.inr L,?_⟩;refine aL (i:=9) (by kernel_rfl) (bM (w':=w2) (v:=.func (.func f2) #[] A) rfl rfl (by go_simp) ⟨.inr L,?_⟩);refine eD (by kernel_rfl) ?_ _;have b2:=aB X;have b3:=aB (aA (aA O gA) g2);have c4:=O.size;have b6:=g2.size;subst hI;clear a5 a4 Z X g1 g2 gA HR E N j M H L;go_wp2;go_ret;refine ⟨f2,A,rfl,?_,b3.out⟩;have G:=b2.out;rw [show [cT y].flatten++[(⟨7,[],ind⟩:Pc)]=fM ind y by simp [fM]] at G;simp at b6;refine G.at (fun k D=>?_) (fun _ _=>rfl);rcases D with (D | D) | D
 ·rcases D with h | h
  ·exact .inl h
  ·have h1:=h.1;have h2:=h.2;exact .inr ⟨h1,by omega⟩
 ·exact .inr ⟨by omega,by omega⟩
 ·have h1:=D.1;simp at h1;exact .inr ⟨by omega,D.2⟩
end Go.Proofs.YtgifkcpdihphlaaGreatDoor
namespace Go.Proofs.YtgifkcpdihphlaaGreatDoor
open Tryz
open Go.RowKit
structure Sx (bs B:Nat) (ind m:Int) (w:World) (nv:Value) (R:List Nod):Prop where
 shp:Shp w bs nv ind
 rd:RdN B w nv R
 tab:Tab w
 mx:w.cell? ⟨1,0,none⟩=some (.int .i64 m)
theorem Sx.K {j B:Nat} {ind m:Int} {w w':World} {nv:Value} {R:List Nod} (h:Sx j B ind m w nv R) (g:w.grownBy w' none):Sx j B ind m w' nv R:=⟨h.shp.K g,h.rd.K g,h.tab.K g,g.cell h.mx (by simp)⟩
theorem Sx.lt {j B:Nat} {ind m:Int} {w:World} {nv:Value} {R:List Nod} (h:Sx j B ind m w nv R):j+3<w.heap.size:=h.shp.sz
theorem pK {j B:Nat} {ind m:Int} {w w':World} {nv:Value} {R:List Nod} {r:Option Nat} (h:Sx j B ind m w nv R) (g:w.grownBy w' r) (y:∀ x,r=some x->j+3<x) (D:B<=j) (A:1<j):Sx j B ind m w' nv R:=by
 have u:∀ b,b<=j+3->some b≠r:=fun b E e=>by have:=y b e.symm;omega
 refine ⟨⟨Nat.lt_of_lt_of_le h.shp.sz g.size,g.cell h.shp.n (u j (by omega)),?_,g.cell h.shp.i (u j (by omega)),⟨g.cell h.shp.v0.1 (u j (by omega)),g.cell h.shp.v0.2 (u (j+1) (by omega))⟩,⟨g.cell h.shp.v1.1 (u j (by omega)),g.cell h.shp.v1.2 (u (j+2) (by omega))⟩,⟨g.cell h.shp.v2.1 (u j (by omega)),g.cell h.shp.v2.2 (u (j+3) (by omega))⟩,g.cell h.shp.v3 (u j (by omega)),g.cell h.shp.v4 (u j (by omega)),g.cell h.shp.v5 (u j (by omega)),g.cell h.shp.v6 (u j (by omega))⟩,h.rd.beside g (fun k e=>by have:=y k e;omega),⟨g.cell h.tab.c0 (u 0 (by omega)),g.cell h.tab.c1 (u 0 (by omega)),g.cell h.tab.c2 (u 0 (by omega)),g.cell h.tab.c3 (u 0 (by omega)),g.cell h.tab.c4 (u 0 (by omega))⟩,g.cell h.mx (u 1 (by omega))⟩;rw [World.frozen?_of_block (g.block j (World.block_lt_of_cell? w _ h.shp.n) (u j (by omega)))];exact h.shp.fz
def pU (bs B:Nat) (ind m:Int) (w:World) (ps:List Pc) (R2:List Nod) (e:Ending) (w':World):Prop:=
 ∃ f caps nv',e=.returned (.func (.func f) #[] caps)/\bT w' (fun k=>w.heap.size<=k/\k<w'.heap.size) f caps ps/\Sx bs B ind m w' nv' R2/\w.grownBy w' (some bs)
def aCT (bs B:Nat) (ind m:Int) (w:World) (dss:List (List Pc)) (R2:List Nod) (e:Ending) (w':World):Prop:=
 ∃ v' nv',e=.returned v'/\PoL w.heap.size w' v' dss/\Sx bs B ind m w' nv' R2/\w.grownBy w' (some bs)
theorem fU {a b:World} {r:Option Nat} (g:a.grownBy b none):a.grownBy b r:=⟨g.os,g.tape,g.output,g.size,fun k h _=>g.block k h (by simp)⟩
theorem aY {a b c:World} {r:Option Nat} {u:Nat} (h:a.grownBy b (some u)) (k:b.grownBy c r) (D:∀ j,r=some j->a.heap.size<=j\/j=u):a.grownBy c (some u):=
 ⟨k.os.trans h.os,k.tape.trans h.tape,k.output.trans h.output,Nat.le_trans h.size k.size,fun i y A=>(k.block i (Nat.lt_of_lt_of_le y h.size) (fun e=>by have:=D i e.symm;simp only [ne_eq,Option.some.injEq] at A;omega)).trans (h.block i y A)⟩
theorem aIn (ind:Int) (d:Nat) (m:Bool) (c:Nat) (R u:List Nod) (H:aN (aD aZ d m) c (R,())=some (u,())) (J:∀ n∈R,n.k<5->n.C=0) :
  ∀ j,j<=c->bO (itK (aF ind d) j R)<=wNs R/\(∃ P,R=P++aT (aF ind d) j R)/\(j=c->aT (aF ind d) j R=u)/\(j<c->aD aZ d m (aT (aF ind d) j R,())=some (aT (aF ind d) (j+1) R,())):=by
 intro j D;have A:=oG (ind:=ind) (fun R u h G=>qT ind d m R u h G) c _ u H J;obtain ⟨P,N⟩:=(iH (bV aZ d m).1 (bV aZ d m).2 j).2 _ _ (A j D);refine ⟨?_,⟨P,N⟩,fun e=>?_,fun L=>?_⟩
 ·obtain ⟨M,E,O⟩:=vS (ind:=ind) (fun R u h G=>sS ind d m R u h G) j _ _ (A j D) J;have S:wNs R=wNs M+wNs (aT (aF ind d) j R):=(by rw [<- vO,<- E]);omega
 ·subst e;have y:=A j D;rw [H] at y;simpa using y.symm
 ·have y:=A (j+1) (by omega);rw [nS,A j D,Option.bind_some] at y;exact y
structure NsK (R:List Nod):Prop where
 nd:∀ p∈R,fJ gE oC p
 ok:∀ p∈R,zP p
 cn:∀ p∈R,p.C<=9223372036854775807
 wt:wNs R<=2000000
theorem NsK.sub {R P S:List Nod} (h:NsK R) (e:R=P++S):NsK S:=
 ⟨fun p j=>h.nd p (by rw [e];exact List.mem_append_right _ j),fun p j=>h.ok p (by rw [e];exact List.mem_append_right _ j),fun p j=>h.cn p (by rw [e];exact List.mem_append_right _ j),by have:=h.wt;rw [e,vO] at this;omega⟩
theorem aGb {B:Nat} {A:World} {f f2:Nat} {y u:Array Value} {H G:List Pc} (L:B<=A.heap.size) (h:bT A (fun k=>B<=k/\k<A.heap.size) f y H) (M:bT A (fun k=>B<=k/\k<A.heap.size) f2 u G) :
  PaR (A.alloc (Obj.cells #[.func (.func f) #[] y,.func (.func f2) #[] u] 92)) (fun k=>B<=k/\k<(A.alloc (Obj.cells #[.func (.func f) #[] y,.func (.func f2) #[] u] 92)).heap.size) (.slice (some ⟨A.heap.size,0,none⟩) 2 2) [H,G]:=by
 have J:=World.grownBy_alloc A (Obj.cells #[.func (.func f) #[] y,.func (.func f2) #[] u] 92) none;refine ⟨_,2,rfl,Nat.le_refl _,by unfold maxLen;omega,fun _=>⟨A.heap.size,0,rfl,⟨L,by simp⟩,by simp,fun j d D=>?_⟩⟩
 match j,D with
 | 0,D=>simp at D;subst D;exact ⟨f,y,by simp [go_sem],h.at (fun k E=>⟨E.1,by simp;omega⟩) (fun k E=>J.block k E.2 (by simp))⟩
 | 1,D=>simp at D;subst D;exact ⟨f2,u,by simp [go_sem],M.at (fun k E=>⟨E.1,by simp;omega⟩) (fun k E=>J.block k E.2 (by simp))⟩
 | j+2,D=>simp at D
theorem sK {B:Nat} {y:World} {f:Nat} {u:Array Value} {E:List Pc} (G:B<=y.heap.size) (h:bT y (fun k=>B<=k/\k<y.heap.size) f u E) :
  PaR (y.alloc (Obj.cells #[.func (.func f) #[] u] 92)) (fun k=>B<=k/\k<(y.alloc (Obj.cells #[.func (.func f) #[] u] 92)).heap.size) (.slice (some ⟨y.heap.size,0,none⟩) 1 1) [E]:=by
 have H:=World.grownBy_alloc y (Obj.cells #[.func (.func f) #[] u] 92) none;refine ⟨_,1,rfl,Nat.le_refl _,by unfold maxLen;omega,fun _=>⟨y.heap.size,0,rfl,⟨G,by simp⟩,by simp,fun j d A=>?_⟩⟩
 match j,A with
 | 0,A=>simp at A;subst A;exact ⟨f,u,by simp [go_sem],h.at (fun k D=>⟨D.1,by simp;omega⟩) (fun k D=>H.block k D.2 (by simp))⟩
 | j+1,A=>simp at A
theorem aEh {B:Nat} {H:World} {f f2 N J:Nat} {D A u y:Array Value} {U O M L:List Pc} (X:B<=H.heap.size) (h:bT H (fun k=>B<=k/\k<H.heap.size) f D U) (h2:bT H (fun k=>B<=k/\k<H.heap.size) f2 A O) (Z:bT H (fun k=>B<=k/\k<H.heap.size) N u M) (Y:bT H (fun k=>B<=k/\k<H.heap.size) J y L) :
  PaR (H.alloc (Obj.cells #[.func (.func f) #[] D,.func (.func f2) #[] A,.func (.func N) #[] u,.func (.func J) #[] y] 92)) (fun k=>B<=k/\k<(H.alloc (Obj.cells #[.func (.func f) #[] D,.func (.func f2) #[] A,.func (.func N) #[] u,.func (.func J) #[] y] 92)).heap.size) (.slice (some ⟨H.heap.size,0,none⟩) 4 4) [U,O,M,L]:=by
 have S:=World.grownBy_alloc H (Obj.cells #[.func (.func f) #[] D,.func (.func f2) #[] A,.func (.func N) #[] u,.func (.func J) #[] y] 92) none;refine ⟨_,4,rfl,Nat.le_refl _,by unfold maxLen;omega,fun _=>⟨H.heap.size,0,rfl,⟨X,by simp⟩,by simp,fun j d G=>?_⟩⟩
 match j,G with
 | 0,G=>simp at G;subst G;exact ⟨f,D,by simp [go_sem],h.at (fun k E=>⟨E.1,by simp;omega⟩) (fun k E=>S.block k E.2 (by simp))⟩
 | 1,G=>simp at G;subst G;exact ⟨f2,A,by simp [go_sem],h2.at (fun k E=>⟨E.1,by simp;omega⟩) (fun k E=>S.block k E.2 (by simp))⟩
 | 2,G=>simp at G;subst G;exact ⟨N,u,by simp [go_sem],Z.at (fun k E=>⟨E.1,by simp;omega⟩) (fun k E=>S.block k E.2 (by simp))⟩
 | 3,G=>simp at G;subst G;exact ⟨J,y,by simp [go_sem],Y.at (fun k E=>⟨E.1,by simp;omega⟩) (fun k E=>S.block k E.2 (by simp))⟩
 | j+4,G=>simp at G
theorem bT.moreB {y D:World} {A B:Nat} {f:Nat} {j:Array Value} {E:List Pc} (h:bT y (fun k=>A<=k/\k<y.heap.size) f j E) (G:B<=A) (g:y.grownBy D none):bT D (fun k=>B<=k/\k<D.heap.size) f j E:=
 h.at (fun k u=>⟨Nat.le_trans G u.1,Nat.lt_of_lt_of_le u.2 g.size⟩) (fun k u=>g.block k u.2 (by simp))
end Go.Proofs.YtgifkcpdihphlaaGreatDoor
