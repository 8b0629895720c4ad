import Derived.Test.YtgifkcpdihphlaaGreatDoorMAL
set_option maxHeartbeats 16000000
set_option maxRecDepth 100000
namespace Go.Proofs.YtgifkcpdihphlaaGreatDoor
open Tryz
open Go.RowKit
structure aCd (t:Tre):Prop where
 n:aMJ t.N
 l:t.N.length<=1048576
 t:t.tail.length<=1048576/\aAR t.tail
noncomputable def iB (t:Tre):Bool:=
 decide (t.N.length<=4000)&&(match aD (dU bG dI) 201 false (t.N,(4000,100000)) with
  | some ([],s)=>(mB bG t.tail s).isSome
  | _=>false)
theorem yF {a b c:World} {h:Nat} (g:a.grownBy b none) (k:b.grownBy c (some h)) (u:a.heap.size<=h):a.grownBy c none:=
 ⟨k.os.trans g.os,k.tape.trans g.tape,k.output.trans g.output,Nat.le_trans g.size k.size,fun i j _=>(k.block i (Nat.lt_of_lt_of_le j g.size) (by simp only [ne_eq,Option.some.injEq];omega)).trans (g.block i j (by simp))⟩
theorem vN (nv tv:Value) (t:Tre) (m:Int) (w:World) (hv:dG w.heap.size w nv tv t) (ho:aCd t) (hT:Tab w) (hM:w.cell? ⟨1,0,none⟩=some (.int .i64 m)) :
  Calls prog 48 #[.agg #[nv,tv]] w fun e w'=>e=.returned (.bool (iB t))/\w.grownBy w' none:=by
 obtain ⟨H,J⟩:=hv;obtain ⟨na,D,a8,_⟩:=id H;obtain ⟨ta,u,b6,_⟩:=id J;have a9:2<=w.heap.size:=World.block_lt_of_cell? w _ hM;have HN:=aB H;have HT:=aB J;have HO:=aB ho;have HX:Hid (Cx w w.heap.size m):=⟨hT,hM,a9,Nat.le_refl _⟩;have hl:=ho.l;subst a8 b6;clear H J hT hM ho
 by_cases c2:4000<t.N.length
 ·have Z:Hid (iB t=false):=by unfold Hid iB;rw [decide_eq_false (by omega)];rfl
  go_enter func48,ntmps48
  go_wp2;go_ret;exact ⟨by rw [Z.out];rfl,gWA⟩
 ·have b0:t.N.length<=4000:=by omega
  go_enter func48,ntmps48
  go_wp2_with fail
  obtain ⟨W1,A⟩:∃ W1,W1=w.alloc (Obj.cells #[Value.slice na t.N.length D,Value.slice ta t.tail.length u] 33):=⟨_,rfl⟩;obtain ⟨G,y⟩:∃ G,G=W1.alloc (Obj.cells #[Value.slice na t.N.length D,Value.int IntKind.i64 4000,Value.int IntKind.i64 100000] 132):=⟨_,rfl⟩;have M:w.grownBy G none:=(by rw [y,A];exact aA gWA gWA);have s2:G.heap.size=w.heap.size+2:=by rw [y,A];simp
  have hK:Ck G (w.heap.size+1) (.slice na t.N.length D) 4000 100000:=by
   rw [y,A];exact ⟨by simp [go_sem],by simp [go_sem],by simp [go_sem],by simp [go_sem],by simp [go_sem],by simp [go_sem]⟩
  have d1:G.cell? ⟨w.heap.size,1,none⟩=some (.slice ta t.tail.length u):=(by rw [y,A];simp [go_sem]);rw [<- A,<- y];clear y A;refine (aBd (w.heap.size+1) w.heap.size m (by omega) 200 (Nat.le_refl _) false _ t.N 4000 100000 G hK (HX.out.below ((aO M).mono (Nat.le_refl _)) (by omega)) (HN.out.K M) HO.out.n HO.out.l (by omega) (by omega)).mono ?_;rintro e w3 ⟨b,v3,R3,P3,c3,r3,rfl,k3,h,j,U⟩;have d3:w3.cell? ⟨w.heap.size,1,none⟩=some (.slice ta t.tail.length u):=U.cell d1 (by simp);have O:=aB (yF M U (by omega));cases b with
  | false=>
    have Z:Hid (iB t=false):=(by unfold Hid iB;rw [h,Bool.and_eq_false_iff];exact .inr rfl);clear j h k3 U;go_wp2;go_ret;exact ⟨by rw [Z.out];rfl,O.out⟩
  | true=>
    obtain ⟨Y,d6,d8,b4⟩:=j rfl;obtain ⟨a3,X,S,_⟩:=id Y;have z0:=k3.n;cases R3 with
    | cons n R=>
      have Z:Hid (iB t=false):=(by unfold Hid iB;rw [h,Bool.and_eq_false_iff];exact .inr rfl);have b5:((n::R).length:Int)≠0:=(by simp only [List.length_cons];omega);have d0:(((n::R).length:Int)==0)=false:=(by simpa using b5);subst S;generalize (n::R).length=L at *;clear j h k3 U;go_wp2;go_ret;exact ⟨by rw [Z.out];rfl,O.out⟩
    | nil=>
      subst S;have b1:=aB (fH (w.heap.size+1) (.slice a3 0 X) (.slice ta t.tail.length u) t.tail c3 r3 m w.heap.size w3 k3 (HX.out.below ((aO O.out).mono (Nat.le_refl _)) O.out.size) (HT.out.K O.out) (by omega) HO.out.t.1 HO.out.t.2 b4 (by omega));have b3:Hid (iB t=(mB bG t.tail (c3,r3)).isSome):=(by unfold Hid iB;rw [h,decide_eq_true b0];rfl);clear j h k3 U Y
      go_wp2_with fail
      refine b1.out.mono ?_;rintro e w4 ⟨b,c4,r4,rfl,k4,E,g4⟩;have HB:Hid (iB t=b):=(by unfold Hid;rw [b3.out,E];cases b<;>rfl);have G4:=aB (yF O.out g4 (by omega));clear E k4 g4;go_wp2;go_ret;exact ⟨by rw [HB.out];rfl,G4.out⟩
end Go.Proofs.YtgifkcpdihphlaaGreatDoor
