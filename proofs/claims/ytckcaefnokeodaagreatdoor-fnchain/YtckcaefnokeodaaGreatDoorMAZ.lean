import Derived.Test.YtckcaefnokeodaaGreatDoorMAY
set_option maxHeartbeats 16000000
set_option maxRecDepth 100000
namespace Go.Proofs.YtckcaefnokeodaaGreatDoor
open Go.Proofs.Tryz Go.RowKit World
theorem aKQ (B) (pb:Nat) (G:World) (w) (d4:pb=G.heap.size) (l fb lb nb) (f0 f1 f2:Value->Option Value) (hC:Ctx B G l fb lb nb f0 f1 f2) (a3 wv tv hv ts tx b6 ch) (h:Pr pb G w (.map (some fb)) (.map (some lb)) (.map (some nb)) a3 wv tv hv ts tx b6 ch) (v) (p:Pc) (x y:Tr) (n D O) (F:Int) (J) (hn:cH B G l v (.bin p x y) n) (hk:p.k=6) (hl:ts.length<=999999) (c9 : -1000000<=(leadT y).1/\(leadT y).1<=1000000) (b9 : -1000000<=F/\F<=1000000) :
  Calls prog 71 #[.pointer (some ⟨pb,0,none⟩),oA v D O F J] w fun e w'=>e=.returned (.tuple #[])/\∃ u u' d6,cH B G l u x n/\cH B G l u' y (n+aP x)/\
   Pr pb G w' (.map (some fb)) (.map (some lb)) (.map (some nb)) a3 d6 tv hv (ts++[⟨u',y,n+aP x,D,O,F,J⟩]++[⟨u,x,n,D,O,if (leadT y).2=true then (leadT y).1 else (leadT y).1+F,if (leadT y).2=true then (leadT y).2 else J⟩]) tx b6 ch:=by
 subst d4;obtain ⟨b,u,u',c0,c1,hu,Z,c3⟩:=hn.bin;rcases c3 with ⟨_,f3⟩ | ⟨h1,_⟩
 rotate_left
 .omega
 have a2:=aC h.bel;have k3:=jN (a2.cell c0 (by simp));have i7:=jN (a2.cell c1 (by simp));have c5:Hid (∀ o,w.grownBy (w.alloc o).drew none):=fun o=>bO gWA;obtain ⟨tu,yu,Y⟩:=hu.rep.form;obtain ⟨a8,b5,M⟩:=Z.rep.form;subst Y M;subst f3;obtain ⟨e1,e2,e3,e4,e5,e6,e7,e8,e9,i8⟩:=vL (.pointer (some ⟨b,0,none⟩));have k2:=h.lt;have HP:=bL h;have HU:=bL hu;have b4:=bL Z;have S:b<G.heap.size:=block_lt_of_cell? G _ c0;have HO:=bL (fun F J=>yG 180 tu (.pointer (some ⟨b,0,none⟩)) yu D O F J);have c4:=bL (yG 180 a8 (.pointer (some ⟨b,0,none⟩)) b5 D O F J);have b1:=ownsRow.lt h.wrow;have b2:=ownsRow.lt h.trow;have a7:=ownsRow.lt h.hrow;have f7:=bL (fun W=>aAD (leadT y).1 F (leadT y).2 J W c9 b9);unfold oA at *;generalize (if (leadT y).2=true then (leadT y).1 else (leadT y).1+F)=fs at *;generalize (if (leadT y).2=true then (leadT y).2 else J)=es at *;clear hn hu Z h
 go_enter func71,ntmps71
 go_wp2_with fail
 go_region_with (first | (go_at_call 111;refine (c4.out _).mono ?_;rintro e w2 ⟨rfl,g2⟩) | (go_at_call 67;refine (kG _ G w2 _ _ _ _ _ _ _ _ _ _ _ (HP.out.K (aA (c5.out _) g2)) ⟨.iface a8 b5,y,n+aP x,D,O,F,J⟩ ⟨_,_,rfl⟩ (by omega)).mono ?_;rintro e w3 ⟨rfl,⟨c6,E,N⟩,d0,b3⟩))
 all_goals
  have d5:=g2.size;simp only [size_drew,size_alloc] at d5;have a6:=b3 w.heap.size (by omega) (by omega) (fun e=>by have:=b1 _ e;omega);have A:=a6.trans (g2.block w.heap.size (by simp) (by simp));have t0:=(cell?_of_block (a:=⟨w.heap.size,0,none⟩) A).trans (show _=some (Value.iface 180 (.pointer (some ⟨b,0,none⟩))) by simp [go_sem]);have t1:=(cell?_of_block (a:=⟨w.heap.size,1,none⟩) A).trans (show _=some (Value.int .i64 D) by simp [go_sem]);have t2:=(cell?_of_block (a:=⟨w.heap.size,2,none⟩) A).trans (show _=some (Value.bool O) by simp [go_sem]);have t3:=(cell?_of_block (a:=⟨w.heap.size,3,none⟩) A).trans (show _=some (Value.int .i64 F) by simp [go_sem]);have t4:=(cell?_of_block (a:=⟨w.heap.size,4,none⟩) A).trans (show _=some (Value.bool J) by simp [go_sem]);have z3:w3.frozen? ⟨w.heap.size,3,none⟩=false:=(frozen?_of_block A).trans (by simp [go_sem]);have z4:w3.frozen? ⟨w.heap.size,4,none⟩=false:=(frozen?_of_block A).trans (by simp [go_sem]);have c7:=E.c1;have n0:=(E.bel.cell (p:=⟨b,0,none⟩) S).trans c0;have n1:=(E.bel.cell (p:=⟨b,1,none⟩) S).trans c1;have H:=aC E.bel;have c8:=hC.L b4.out (bO H);have a4:=f7.out w3.drew
  have b0:c6.ownBlock≠some w.heap.size:=by
   intro e;rcases N with e1 | ⟨g,e1,hg⟩
   .rw [e] at e1;have:=b1 _ e1.symm;omega
   .rw [e] at e1;cases e1;omega
  have f5:=bL E;have i5:=bL d0;have h2:=bL H;have a5:=bL b0;clear E b3 a6 A H N g2 b0
  go_wp2_with fail
  go_region_with (go_at_call 110;refine a4.mono ?_;rintro e w4 ⟨rfl,I⟩;have l0:=I.cell t0 (by simp);have k7:=I.cell t1 (by simp);have j6:=I.cell t2 (by simp);have j9:=I.cell t3 (by simp);have j1:=I.cell t4 (by simp);have j8:w4.frozen? ⟨w.heap.size,3,none⟩=false:=(frozen?_of_block (I.block w.heap.size (by simp;omega) (by simp))).trans z3;have j7:w4.frozen? ⟨w.heap.size,4,none⟩=false:=(frozen?_of_block (I.block w.heap.size (by simp;omega) (by simp))).trans z4;have k6:=I.cell n0 (by simp);have k8:=I.cell n1 (by simp))
  all_goals
   have a9:=f5.out.K (aA (bO (grownBy.refl _ _)) I);have a1:=(a9.aside w.heap.size 3 (.int .i64 fs) (by omega) a5.out (fun e=>by have:=b2 _ e;omega) (fun e=>by have:=a7 _ e;omega)).aside w.heap.size 4 (.bool es) (by omega) a5.out (fun e=>by have:=b2 _ e;omega) (fun e=>by have:=a7 _ e;omega);have d9:=bL a1;have g3:¬ b=w.heap.size:=(by omega);clear a9 a1 c8 a4 t0 t1 t2 t3 t4 z3 z4 n0 n1 c7 I
   go_wp2_with fail
   go_region_with (first | (go_at_call 111;refine (HO.out fs es _).mono ?_;rintro e w6 ⟨rfl,g6⟩) | (go_at_call 67;refine (kG _ G w6 _ _ _ _ _ _ _ _ _ _ _ (d9.out.K (aA (bO (grownBy.refl _ _)) g6)) ⟨.iface tu yu,x,n,D,O,fs,es⟩ ⟨_,_,rfl⟩ (by simp;omega)).mono ?_;rintro e w7 ⟨rfl,⟨d8,f4,_⟩,_,_⟩))
   all_goals
    go_wp2
    go_returns
    exact ⟨rfl,_,_,d8,HU.out,b4.out,f4⟩
end Go.Proofs.YtckcaefnokeodaaGreatDoor
