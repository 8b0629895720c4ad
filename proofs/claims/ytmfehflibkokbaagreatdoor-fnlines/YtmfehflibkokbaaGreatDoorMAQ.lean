import Derived.Test.YtmfehflibkokbaaGreatDoorMAP
set_option maxHeartbeats 16000000
set_option maxRecDepth 100000
namespace Go.Proofs.YtmfehflibkokbaaGreatDoor
open Go.Proofs.Tryz
open Go.RowKit
theorem aJ1 (B pb:Nat) (wm w:World) (d9:pb=wm.heap.size) (l:List Value) (fb lb nb:Nat) (f0 f1 f2:Value->Option Value) (hC:Ctx B wm l fb lb nb f0 f1 f2) (a3 wv tv hv:Value) (ts:List Tk) (tx:List Int) (col:Int) (ch:List Int) (h:Pr pb wm w (.map (some fb)) (.map (some lb)) (.map (some nb)) a3 wv tv hv ts tx col ch)
  (v:Value) (p:Pc) (x y:Tr) (n:Nat) (ind:Int) (fl:Bool) (E:Int) (M:Bool) (hn:cA B wm l v (.bin p x y) n) (hk:p.k=6) (hl:ts.length<=999999) (d5 : -1000000<=(leadT y).1/\(leadT y).1<=1000000) (d7 : -1000000<=E/\E<=1000000) :
  Calls prog 87 #[.pointer (some ⟨pb,0,none⟩),mS v ind fl E M] w fun e w'=>e=.returned (.tuple #[])/\∃ u u' wv',cA B wm l u x n/\cA B wm l u' y (n+bV x)/\
   Pr pb wm w' (.map (some fb)) (.map (some lb)) (.map (some nb)) a3 wv' tv hv (ts++[⟨u',y,n+bV x,ind,fl,E,M⟩]++[⟨u,x,n,ind,fl,if (leadT y).2=true then (leadT y).1 else (leadT y).1+E,if (leadT y).2=true then (leadT y).2 else M⟩]) tx col ch:=by
 subst d9;obtain ⟨b,u,u',c0,c1,hu,U,c3⟩:=hn.bin;rcases c3 with ⟨_,c7⟩ | ⟨h1,_⟩
 rotate_left
 ·omega
 have a8:=aC h.bel;have h4:=iU (a8.cell c0 (by simp));have j3:=iU (a8.cell c1 (by simp));have b9:Hid (∀ o,w.grownBy (w.alloc o).drew none):=fun o=>dR gWA;obtain ⟨tu,yu,X⟩:=hu.rep.form;obtain ⟨a5,b5,N⟩:=U.rep.form;subst X N;subst c7;obtain ⟨Y,e2,e3,e4,e5,e6,e7,e8,e9,i2⟩:=vA (.pointer (some ⟨b,0,none⟩));have i5:=h.lt;have HP:=bH h;have HU:=bH hu;have b6:=bH U;have S:b<wm.heap.size:=World.block_lt_of_cell? wm _ c0;have HO:=bH (fun E M=>vR 188 tu (.pointer (some ⟨b,0,none⟩)) yu ind fl E M);have c9:=bH (vR 188 a5 (.pointer (some ⟨b,0,none⟩)) b5 ind fl E M);have b0:=World.ownsRow.lt h.wrow;have b1:=World.ownsRow.lt h.trow;have b3:=World.ownsRow.lt h.hrow;have c5:=bH (fun W=>aAn (leadT y).1 E (leadT y).2 M W d5 d7);unfold mS at *;generalize (if (leadT y).2=true then (leadT y).1 else (leadT y).1+E)=fs at *;generalize (if (leadT y).2=true then (leadT y).2 else M)=es at *;clear hn hu U h
 go_enter func87,ntmps87
 go_wp2_with fail
 go_region_with (first | (go_at_call 118;refine (c9.out _).mono ?_;rintro e w2 ⟨rfl,g2⟩) | (go_at_call 83;refine (jI _ wm w2 _ _ _ _ _ _ _ _ _ _ _ (HP.out.K (aA (b9.out _) g2)) ⟨.iface a5 b5,y,n+bV x,ind,fl,E,M⟩ ⟨_,_,rfl⟩ (by omega)).mono ?_;rintro e w3 ⟨rfl,⟨b8,D,O⟩,c8,a9⟩))
 all_goals
  have d4:=g2.size;simp only [World.size_drew,World.size_alloc] at d4;have a4:=a9 w.heap.size (by omega) (by omega) (fun e=>by have:=b0 _ e;omega);have A:=a4.trans (g2.block w.heap.size (by simp) (by simp));have t0:=(World.cell?_of_block (a:=⟨w.heap.size,0,none⟩) A).trans (show _=some (Value.iface 188 (.pointer (some ⟨b,0,none⟩))) by simp [go_sem]);have t1:=(World.cell?_of_block (a:=⟨w.heap.size,1,none⟩) A).trans (show _=some (Value.int .i64 ind) by simp [go_sem]);have t2:=(World.cell?_of_block (a:=⟨w.heap.size,2,none⟩) A).trans (show _=some (Value.bool fl) by simp [go_sem]);have t3:=(World.cell?_of_block (a:=⟨w.heap.size,3,none⟩) A).trans (show _=some (Value.int .i64 E) by simp [go_sem]);have t4:=(World.cell?_of_block (a:=⟨w.heap.size,4,none⟩) A).trans (show _=some (Value.bool M) by simp [go_sem]);have z3:w3.frozen? ⟨w.heap.size,3,none⟩=false:=(World.frozen?_of_block A).trans (by simp [go_sem]);have z4:w3.frozen? ⟨w.heap.size,4,none⟩=false:=(World.frozen?_of_block A).trans (by simp [go_sem]);have c6:=D.c1;have n0:=(D.bel.cell (p:=⟨b,0,none⟩) S).trans c0;have n1:=(D.bel.cell (p:=⟨b,1,none⟩) S).trans c1;have J:=aC D.bel;have c4:=hC.L b6.out (dR J);have Z:=c5.out w3.drew
  have a6:b8.ownBlock≠some w.heap.size:=by
   intro e;rcases O with Y | ⟨g,Y,hg⟩
   ·rw [e] at Y;have:=b0 _ Y.symm;omega
   ·rw [e] at Y;cases Y;omega
  have d3:=bH D;have h8:=bH c8;have g1:=bH J;have a7:=bH a6;clear D a9 a4 A J O g2 a6
  go_wp2_with fail
  go_region_with (go_at_call 117;refine Z.mono ?_;rintro e w4 ⟨rfl,G⟩;have h9:=G.cell t0 (by simp);have i6:=G.cell t1 (by simp);have i9:=G.cell t2 (by simp);have h5:=G.cell t3 (by simp);have i7:=G.cell t4 (by simp);have h7:w4.frozen? ⟨w.heap.size,3,none⟩=false:=(World.frozen?_of_block (G.block w.heap.size (by simp;omega) (by simp))).trans z3;have i3:w4.frozen? ⟨w.heap.size,4,none⟩=false:=(World.frozen?_of_block (G.block w.heap.size (by simp;omega) (by simp))).trans z4;have i8:=G.cell n0 (by simp);have j2:=G.cell n1 (by simp))
  all_goals
   have b4:=d3.out.K (aA (dR (World.grownBy.refl _ _)) G);have b2:=(b4.aside w.heap.size 3 (.int .i64 fs) (by omega) a7.out (fun e=>by have:=b1 _ e;omega) (fun e=>by have:=b3 _ e;omega)).aside w.heap.size 4 (.bool es) (by omega) a7.out (fun e=>by have:=b1 _ e;omega) (fun e=>by have:=b3 _ e;omega);have d1:=bH b2;have g0:¬ b=w.heap.size:=(by omega);clear b4 b2 c4 Z t0 t1 t2 t3 t4 z3 z4 n0 n1 c6 G
   go_wp2_with fail
   go_region_with (first | (go_at_call 118;refine (HO.out fs es _).mono ?_;rintro e w6 ⟨rfl,g6⟩) | (go_at_call 83;refine (jI _ wm w6 _ _ _ _ _ _ _ _ _ _ _ (d1.out.K (aA (dR (World.grownBy.refl _ _)) g6)) ⟨.iface tu yu,x,n,ind,fl,fs,es⟩ ⟨_,_,rfl⟩ (by simp;omega)).mono ?_;rintro e w7 ⟨rfl,⟨d6,d2,_⟩,_,_⟩))
   all_goals
    go_wp2
    go_returns
    exact ⟨rfl,_,_,d6,HU.out,b6.out,d2⟩
end Go.Proofs.YtmfehflibkokbaaGreatDoor
