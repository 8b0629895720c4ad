import Derived.Test.YtgifkcpdihphlaaGreatDoorMBM
set_option maxHeartbeats 16000000
set_option maxRecDepth 100000
namespace Go.Proofs.YtgifkcpdihphlaaGreatDoor
open Tryz
open Go.RowKit
theorem aK0 (B pb:Nat) (wm w:World) (c3:pb=wm.heap.size) (l:List Value) (fb lb nb:Nat) (f0 f1 f2:Value->Option Value) (hC:Ctx B wm l fb lb nb f0 f1 f2) (a3 wv tv hv:Value) (ts:List Tk) (tx:List Int) (col:Int) (ch:List Int) (h:Pr pb wm w (.map (some fb)) (.map (some lb)) (.map (some nb)) a3 wv tv hv ts tx col ch)
  (v:Value) (p:Pc) (x y:Tr) (n:Nat) (ind:Int) (fl:Bool) (D:Int) (H:Bool) (hn:cE B wm l v (.bin p x y) n) (hk:p.k=6) (hl:ts.length<=999999) (c8 : -1000000<=(leadT y).1/\(leadT y).1<=1000000) (b7 : -1000000<=D/\D<=1000000) :
  Calls prog 98 #[.pointer (some ⟨pb,0,none⟩),nI v ind fl D H] w fun e w'=>e=.returned (.tuple #[])/\∃ u u' wv',cE B wm l u x n/\cE B wm l u' y (n+bY x)/\
   Pr pb wm w' (.map (some fb)) (.map (some lb)) (.map (some nb)) a3 wv' tv hv (ts++[⟨u',y,n+bY x,ind,fl,D,H⟩]++[⟨u,x,n,ind,fl,if (leadT y).2=true then (leadT y).1 else (leadT y).1+D,if (leadT y).2=true then (leadT y).2 else H⟩]) tx col ch:=by
 subst c3;obtain ⟨b,u,u',c0,c1,hu,S,b6⟩:=hn.bin;rcases b6 with ⟨_,c7⟩ | ⟨h1,_⟩
 rotate_left
 ·omega
 have b0:=aC h.bel;have h9:=iX (b0.cell c0 (by simp));have h6:=iX (b0.cell c1 (by simp));have d3:Hid (∀ o,w.grownBy (w.alloc o).drew none):=fun o=>dW gWA;obtain ⟨tu,yu,O⟩:=hu.rep.form;obtain ⟨a5,X,J⟩:=S.rep.form;subst O J;subst c7;obtain ⟨U,e2,e3,e4,e5,e6,e7,e8,e9,i6⟩:=vK (.pointer (some ⟨b,0,none⟩));have j1:=h.lt;have HP:=bJ h;have HU:=bJ hu;have a9:=bJ S;have M:b<wm.heap.size:=World.block_lt_of_cell? wm _ c0;have HO:=bJ (fun D H=>wR 198 tu (.pointer (some ⟨b,0,none⟩)) yu ind fl D H);have d1:=bJ (wR 198 a5 (.pointer (some ⟨b,0,none⟩)) X ind fl D H);have a7:=World.ownsRow.lt h.wrow;have a6:=World.ownsRow.lt h.trow;have b3:=World.ownsRow.lt h.hrow;have b9:=bJ (fun W=>zH (leadT y).1 D (leadT y).2 H W c8 b7);unfold nI at *;generalize (if (leadT y).2=true then (leadT y).1 else (leadT y).1+D)=fs at *;generalize (if (leadT y).2=true then (leadT y).2 else H)=es at *;clear hn hu S h
 go_enter func98,ntmps98
 go_wp2_with fail
 go_region_with (first | (go_at_call 130;refine (d1.out _).mono ?_;rintro e w2 ⟨rfl,g2⟩) | (go_at_call 94;refine (jS _ wm w2 _ _ _ _ _ _ _ _ _ _ _ (HP.out.K (aA (d3.out _) g2)) ⟨.iface a5 X,y,n+bY x,ind,fl,D,H⟩ ⟨_,_,rfl⟩ (by omega)).mono ?_;rintro e w3 ⟨rfl,⟨c4,A,N⟩,d2,b2⟩))
 all_goals
  have c2:=g2.size;simp only [World.size_drew,World.size_alloc] at c2;have Y:=b2 w.heap.size (by omega) (by omega) (fun e=>by have:=a7 _ e;omega);have j:=Y.trans (g2.block w.heap.size (by simp) (by simp));have t0:=(World.cell?_of_block (a:=⟨w.heap.size,0,none⟩) j).trans (show _=some (Value.iface 198 (.pointer (some ⟨b,0,none⟩))) by simp [go_sem]);have t1:=(World.cell?_of_block (a:=⟨w.heap.size,1,none⟩) j).trans (show _=some (Value.int .i64 ind) by simp [go_sem]);have t2:=(World.cell?_of_block (a:=⟨w.heap.size,2,none⟩) j).trans (show _=some (Value.bool fl) by simp [go_sem]);have t3:=(World.cell?_of_block (a:=⟨w.heap.size,3,none⟩) j).trans (show _=some (Value.int .i64 D) by simp [go_sem]);have t4:=(World.cell?_of_block (a:=⟨w.heap.size,4,none⟩) j).trans (show _=some (Value.bool H) by simp [go_sem]);have z3:w3.frozen? ⟨w.heap.size,3,none⟩=false:=(World.frozen?_of_block j).trans (by simp [go_sem]);have z4:w3.frozen? ⟨w.heap.size,4,none⟩=false:=(World.frozen?_of_block j).trans (by simp [go_sem]);have d6:=A.c1;have n0:=(A.bel.cell (p:=⟨b,0,none⟩) M).trans c0;have n1:=(A.bel.cell (p:=⟨b,1,none⟩) M).trans c1;have E:=aC A.bel;have c9:=hC.L a9.out (dW E);have Z:=b9.out w3.drew
  have a8:c4.ownBlock≠some w.heap.size:=by
   intro e;rcases N with U | ⟨g,U,hg⟩
   ·rw [e] at U;have:=a7 _ U.symm;omega
   ·rw [e] at U;cases U;omega
  have d8:=bJ A;have h4:=bJ d2;have f9:=bJ E;have a4:=bJ a8;clear A b2 Y j E N g2 a8
  go_wp2_with fail
  go_region_with (go_at_call 129;refine Z.mono ?_;rintro e w4 ⟨rfl,G⟩;have i7:=G.cell t0 (by simp);have h7:=G.cell t1 (by simp);have i9:=G.cell t2 (by simp);have i2:=G.cell t3 (by simp);have i3:=G.cell t4 (by simp);have i5:w4.frozen? ⟨w.heap.size,3,none⟩=false:=(World.frozen?_of_block (G.block w.heap.size (by simp;omega) (by simp))).trans z3;have h3:w4.frozen? ⟨w.heap.size,4,none⟩=false:=(World.frozen?_of_block (G.block w.heap.size (by simp;omega) (by simp))).trans z4;have i0:=G.cell n0 (by simp);have i1:=G.cell n1 (by simp))
  all_goals
   have b1:=d8.out.K (aA (dW (World.grownBy.refl _ _)) G);have b4:=(b1.aside w.heap.size 3 (.int .i64 fs) (by omega) a4.out (fun e=>by have:=a6 _ e;omega) (fun e=>by have:=b3 _ e;omega)).aside w.heap.size 4 (.bool es) (by omega) a4.out (fun e=>by have:=a6 _ e;omega) (fun e=>by have:=b3 _ e;omega);have d4:=bJ b4;have f6:¬ b=w.heap.size:=(by omega);clear b1 b4 c9 Z t0 t1 t2 t3 t4 z3 z4 n0 n1 d6 G
   go_wp2_with fail
   go_region_with (first | (go_at_call 130;refine (HO.out fs es _).mono ?_;rintro e w6 ⟨rfl,g6⟩) | (go_at_call 94;refine (jS _ wm w6 _ _ _ _ _ _ _ _ _ _ _ (d4.out.K (aA (dW (World.grownBy.refl _ _)) g6)) ⟨.iface tu yu,x,n,ind,fl,fs,es⟩ ⟨_,_,rfl⟩ (by simp;omega)).mono ?_;rintro e w7 ⟨rfl,⟨d7,d5,_⟩,_,_⟩))
   all_goals
    go_wp2
    go_returns
    exact ⟨rfl,_,_,d7,HU.out,a9.out,d5⟩
end Go.Proofs.YtgifkcpdihphlaaGreatDoor
