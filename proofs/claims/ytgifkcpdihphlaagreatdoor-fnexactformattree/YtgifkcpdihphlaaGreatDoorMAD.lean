import Derived.Test.YtgifkcpdihphlaaGreatDoorMAC
set_option maxHeartbeats 16000000
set_option maxRecDepth 100000
namespace Go.Proofs.YtgifkcpdihphlaaGreatDoor
open Tryz
open Go.RowKit
theorem aCZ (w:World) (h:List Int) (y:Bys h) (c:Nat) :
  RdB (w.alloc (.cells (bytesRow (strOfNums h) c) 5 ((bytesRow (strOfNums h) c).size,(bytesRow (strOfNums h) c).size+1))).heap.size (w.alloc (.cells (bytesRow (strOfNums h) c) 5 ((bytesRow (strOfNums h) c).size,(bytesRow (strOfNums h) c).size+1))) (.slice (some ⟨w.heap.size,0,none⟩) h.length c) h:=by
 refine ⟨_,c,rfl,fun _=>⟨w.heap.size,0,rfl,by simp,fun j u=>?_⟩⟩;have:=World.cell?_alloc_mark w (bytesRow (strOfNums h) c) 5 ((bytesRow (strOfNums h) c).size,(bytesRow (strOfNums h) c).size+1) j;rw [Nat.zero_add,this];have A:=y _ (List.getElem_mem u);unfold bytesRow;rw [Array.getElem?_append_left (by simp [strOfNums,u])];simp [strOfNums,u];omega
theorem Rd.heap {q:IntKind} {B:Nat} {w w':World} {v:Value} {zs:List Int} (h:Rd q B w v zs) (e:w'.heap=w.heap):Rd q B w' v zs:=by
 obtain ⟨a,cap,hv,y⟩:=h;refine ⟨a,cap,hv,fun E=>?_⟩;obtain ⟨b,off,D,A,u⟩:=y E;exact ⟨b,off,D,A,fun j G=>by rw [<- u j G];unfold World.cell?;rw [e]⟩
theorem Tx.from_ {B:Nat} {w:World} {a:Option Addr} {cap:Nat} {zs:List Int} (h:Tx B w (.slice a zs.length cap) zs) (n:Nat) (Y:n<=zs.length) :
  RdB B w (.slice (if cap=n then a else Option.map (fun x=>x.add n) a) (zs.length - n) (cap - n)) (zs.drop n)/\Sl (.slice (if cap=n then a else Option.map (fun x=>x.add n) a) (zs.length - n) (cap - n)) (zs.drop n).length/\Bys (zs.drop n):=by
 obtain ⟨a2,y,hv,H⟩:=h.rd;obtain ⟨J,u,A,G,S⟩:=h.sl;have M:a=a2/\cap=y:=(by simpa using hv);have O:a=J/\cap=u:=(by simpa using A);obtain ⟨rfl,rfl⟩:=M;obtain ⟨_,rfl⟩:=O;refine ⟨⟨_,cap - n,by rw [List.length_drop],fun U=>?_⟩,⟨_,cap - n,by rw [List.length_drop],by rw [List.length_drop];omega,by omega⟩,fun z N=>h.by_ z (List.mem_of_mem_drop N)⟩
 have D:n<zs.length:=by
  apply Classical.byContradiction;intro E;exact U (List.drop_of_length_le (by omega))
 obtain ⟨b,off,rfl,L,E⟩:=H (fun e=>by simp [e] at D);rw [if_neg (by omega)];refine ⟨b,off+n,by simp [Addr.add],L,fun j X=>?_⟩;rw [List.length_drop] at X;rw [Nat.add_assoc,E (n+j) (by omega),pM]
theorem Sc.drew {sb:Nat} {w:World} {tv:Value} {n:Nat} (h:Sc sb w tv n):Sc sb w.drew tv n:=⟨h.c0,h.c1,h.fz⟩
theorem zL (j:List Int) (N:Bys j) (c5:j.length<=100) (sb n:Nat) (tv:Value) (zs:List Int) (w:World) (h:Sc sb w tv n) (M:Tx sb w tv zs) (hn:n<=zs.length) :
  Calls prog 165 #[.pointer (some ⟨sb,0,none⟩),.string (strOfNums j)] w fun e w'=>e=.returned (.bool (decide (j <+: zs.drop n)))/\Sc sb w' tv (if j <+: zs.drop n then n+j.length else n)/\w.grownBy w' (some sb):=by
 have b8:∀ (x:Bool) (w:World),(Op.unary .not (.bool x)).run prog w=.ok (.bool (!x)) w:=fun _ _=>rfl;have Z:=h.c0;have h1:=h.c1;have u:=h.lt;have c2:(strOfNums j).size=j.length:=strOfNums_size j;have b7:=M.len;have G:∀ W:World,_:=fun W=>run_bytes_of_string (P:=prog) W 9 27 5 (strOfNums j) underlying9 underlying27 underlying5;simp only [strOfNums_size] at G;obtain ⟨a,cap,rfl,_⟩:=M.rd;obtain ⟨a',O,H,b6,b2⟩:=M.sl;have b4:cap=O:=(by simp at H;exact H.2);subst b4;unfold maxLen at b2;have U:=M.from_ n hn;have X:=World.grownBy_alloc w (.cells (bytesRow (strOfNums j) (grownCap w.drew j.length 0 5)) 5 ((bytesRow (strOfNums j) (grownCap w.drew j.length 0 5)).size,(bytesRow (strOfNums j) (grownCap w.drew j.length 0 5)).size+1)) none;have a7:sb<=(w.alloc (.cells (bytesRow (strOfNums j) (grownCap w.drew j.length 0 5)) 5 ((bytesRow (strOfNums j) (grownCap w.drew j.length 0 5)).size,(bytesRow (strOfNums j) (grownCap w.drew j.length 0 5)).size+1))).heap.size:=by simp;omega
 have S:=aB (fun v1 (r1:RdB _ _ v1 _) s1=>aBt v1 _ (zs.drop n) j (w.alloc (.cells (bytesRow (strOfNums j) (grownCap w.drew j.length 0 5)) 5 ((bytesRow (strOfNums j) (grownCap w.drew j.length 0 5)).size,(bytesRow (strOfNums j) (grownCap w.drew j.length 0 5)).size+1))).drew.drew
  r1 s1 ((aCZ w j N _).heap rfl) U.2.2 N (by rw [List.length_drop];omega) (by omega) |>.mono fun e w' (hx:_/\_)=>(⟨hx.1,hx.2 ▸ (h.K X).drew.drew,hx.2 ▸ nN (nN X)⟩:_/\Sc sb w' (.slice a zs.length cap) n/\w.grownBy w' none))
 have HR:=aB ((U.1.K X).now.heap (w':=(w.alloc (.cells (bytesRow (strOfNums j) (grownCap w.drew j.length 0 5)) 5 ((bytesRow (strOfNums j) (grownCap w.drew j.length 0 5)).size,(bytesRow (strOfNums j) (grownCap w.drew j.length 0 5)).size+1))).drew.drew) rfl);have E:=aB U.2.1;clear h M H U X a7;obtain ⟨m,hm⟩:∃ m:Nat,m=if j <+: zs.drop n then n+j.length else n:=⟨_,rfl⟩
 rw [<- hm];have D:m=if decide (j <+: zs.drop n)=true then n+j.length else n:=(by rw [hm];simp);generalize decide (j <+: zs.drop n)=ok at S D ⊢;have HM:=aB D;clear hm D
 by_cases b1:cap=n
 ·have hz:zs.length=n:=by omega
  have Y:Hid (∀ (a:Option Addr) (l c:Nat),l=0/\c=0->RdB (w.alloc (.cells (bytesRow (strOfNums j) (grownCap w.drew j.length 0 5)) 5 ((bytesRow (strOfNums j) (grownCap w.drew j.length 0 5)).size,(bytesRow (strOfNums j) (grownCap w.drew j.length 0 5)).size+1))).drew.drew.heap.size (w.alloc (.cells (bytesRow (strOfNums j) (grownCap w.drew j.length 0 5)) 5 ((bytesRow (strOfNums j) (grownCap w.drew j.length 0 5)).size,(bytesRow (strOfNums j) (grownCap w.drew j.length 0 5)).size+1))).drew.drew (.slice a l c) (zs.drop n)/\Sl (.slice a l c) (zs.drop n).length):=by
   rintro a l c ⟨rfl,rfl⟩;rw [List.drop_of_length_le (by omega)];exact ⟨⟨a,0,rfl,fun h=>absurd rfl h⟩,⟨a,0,rfl,Nat.le_refl _,by unfold maxLen;omega⟩⟩
  clear hz;cases ok
  ·go_enter func165,ntmps165
   go_wp2_with fail
   have q0:∀ o,((w.drew).drew.alloc o).cell? ⟨sb,0,none⟩=some (.slice a zs.length cap):=fun o=>(World.cell?_alloc_past _ _ _ u).trans Z;have q1:∀ o,((w.drew).drew.alloc o).cell? ⟨sb,1,none⟩=some (.int .i64 n):=fun o=>(World.cell?_alloc_past _ _ _ u).trans h1
   go_region_with (go_at_call 184;refine (S.out _ (Y.out _ _ _ (by omega)).1 (Y.out _ _ _ (by omega)).2).mono ?_;rintro e w1 ⟨rfl,y,A⟩)
   all_goals
    have J:=y.c1;have L:=y.fz;go_wp2;go_ret;exact ⟨rfl,by rw [HM.out];exact y,gH A⟩
  ·go_enter func165,ntmps165
   go_wp2_with fail
   have q0:∀ o,((w.drew).drew.alloc o).cell? ⟨sb,0,none⟩=some (.slice a zs.length cap):=fun o=>(World.cell?_alloc_past _ _ _ u).trans Z;have q1:∀ o,((w.drew).drew.alloc o).cell? ⟨sb,1,none⟩=some (.int .i64 n):=fun o=>(World.cell?_alloc_past _ _ _ u).trans h1
   go_region_with (go_at_call 184;refine (S.out _ (Y.out _ _ _ (by omega)).1 (Y.out _ _ _ (by omega)).2).mono ?_;rintro e w1 ⟨rfl,y,A⟩)
   all_goals
    have J:=y.c1;have L:=y.fz;go_wp2;go_ret;exact ⟨rfl,by rw [HM.out];exact y.put _ _ (by go_num),aA (gH A) (uL _ _ _ _)⟩
 ·rw [if_neg b1] at HR E;cases ok
  ·go_enter func165,ntmps165
   go_wp2_with fail
   have q0:∀ o,((w.drew).drew.alloc o).cell? ⟨sb,0,none⟩=some (.slice a zs.length cap):=fun o=>(World.cell?_alloc_past _ _ _ u).trans Z;have q1:∀ o,((w.drew).drew.alloc o).cell? ⟨sb,1,none⟩=some (.int .i64 n):=fun o=>(World.cell?_alloc_past _ _ _ u).trans h1
   go_region_with (go_at_call 184;refine (S.out _ HR.out E.out).mono ?_;rintro e w1 ⟨rfl,y,A⟩)
   all_goals
    have J:=y.c1;have L:=y.fz;go_wp2;go_ret;exact ⟨rfl,by rw [HM.out];exact y,gH A⟩
  ·go_enter func165,ntmps165
   go_wp2_with fail
   have q0:∀ o,((w.drew).drew.alloc o).cell? ⟨sb,0,none⟩=some (.slice a zs.length cap):=fun o=>(World.cell?_alloc_past _ _ _ u).trans Z;have q1:∀ o,((w.drew).drew.alloc o).cell? ⟨sb,1,none⟩=some (.int .i64 n):=fun o=>(World.cell?_alloc_past _ _ _ u).trans h1
   go_region_with (go_at_call 184;refine (S.out _ HR.out E.out).mono ?_;rintro e w1 ⟨rfl,y,A⟩)
   all_goals
    have J:=y.c1;have L:=y.fz;go_wp2;go_ret;exact ⟨rfl,by rw [HM.out];exact y.put _ _ (by go_num),aA (gH A) (uL _ _ _ _)⟩
end Go.Proofs.YtgifkcpdihphlaaGreatDoor
