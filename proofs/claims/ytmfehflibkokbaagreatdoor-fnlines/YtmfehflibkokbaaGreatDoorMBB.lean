import Derived.Lib.AppendStr
import Derived.Lib.SlBytesConst
import Derived.Test.YtmfehflibkokbaaGreatDoorMBA
set_option maxHeartbeats 16000000
set_option maxRecDepth 100000
namespace Go.Proofs.YtmfehflibkokbaaGreatDoor
open Go.Proofs.Tryz
open Go.RowKit
def Bw (B:Nat) (w:World) (v:Value) (zs:List Int):Prop:=
 OwB B w v zs\/∃ g,v=.slice (some ⟨g,0,none⟩) zs.length zs.length/\B<=g/\g<w.heap.size/\zs.length<=1000/\∀ j,j<zs.length->w.cell? ⟨g,j,none⟩=some (.int .u8 (zs[j]?.getD 0))
theorem Bw.lt {B:Nat} {w:World} {v:Value} {zs:List Int} (h:Bw B w v zs):∀ k,v.ownBlock=some k->B<=k/\k<w.heap.size:=by
 rcases h with h | ⟨g,rfl,y,A,_⟩
 ·exact fun k e=>World.ownsRow.lt h k e
 ·intro k e;cases e;exact ⟨y,A⟩
theorem Bw.K {B:Nat} {w w':World} {v:Value} {zs:List Int} (h:Bw B w v zs) (g:w.grownBy w' none):Bw B w' v zs:=by
 rcases h with h | ⟨x,rfl,D,E,A,y⟩
 ·exact .inl (h.later g)
 ·exact .inr ⟨x,rfl,D,Nat.lt_of_lt_of_le E g.size,A,fun j G=>g.cell (y j G) (by simp)⟩
theorem Bw.rd {B:Nat} {w:World} {v:Value} {zs:List Int} (h:Bw B w v zs):RdB w.heap.size w v zs:=by
 rcases h with h | ⟨g,rfl,G,A,E,y⟩
 ·exact h.rd
 ·exact ⟨_,_,rfl,fun _=>⟨g,0,rfl,A,fun j D=>by rw [Nat.zero_add];exact y j D⟩⟩
theorem Bw.sl {B:Nat} {w:World} {v:Value} {zs:List Int} (h:Bw B w v zs):Sl v zs.length:=by
 rcases h with h | ⟨g,rfl,y,D,E,A⟩
 ·exact h.sl
 ·exact ⟨_,_,rfl,Nat.le_refl _,by unfold maxLen;omega⟩
theorem Bw.nil (B:Nat) (w:World):Bw B w (.slice none 0 0) []:=.inl ⟨by simp,.inl ⟨rfl,rfl⟩⟩
theorem aHf (B:Nat) (w:World) (v tv:Value) (ys t:List Int) (h:Bw B w v ys) (G:RdB w.heap.size w tv t) (hB:B<=w.heap.size) (hn:ys.length+t.length<=100000000000) :
  ∃ A w',(Builtin.append_ #[22,22] 22 #[v,tv]).run prog w=.ok A w'/\Bw B w' A (ys++t)/\w.grownBy w' v.ownBlock/\(A.ownBlock=v.ownBlock\/A.ownBlock=some w.heap.size):=by
 rcases h with h | ⟨g,rfl,h1,h2,h3,h4⟩
 ·obtain ⟨A,w',hr,ho,hg,hb⟩:=lR B w.heap.size w v tv ys t h G hB hn;exact ⟨A,w',hr,.inl ho,hg,hb⟩
 ·obtain ⟨i0,O,a6,D,a5⟩:=info_parts mF;obtain ⟨a,cap,X,hr⟩:=G;subst X;have Y:=underlying22
  by_cases S:t=[]
  ·subst S;refine ⟨_,w,?_,by rw [List.append_nil];exact .inr ⟨g,rfl,h1,h2,h3,h4⟩,World.grownBy.refl _ _,.inl rfl⟩;cases a with
   | none=>simp [Builtin.append_,run_underlying Y,sizeOf,typeInfo,O,Builtin.lenOf,Builtin.firstCells,storeCells]
   | some ad=>simp [Builtin.append_,run_underlying Y,sizeOf,typeInfo,O,Builtin.lenOf,Builtin.firstCells,loadCells,loadCellsFrom,storeCells]
  ·obtain ⟨b,off,rfl,hb,hc⟩:=hr S;have b9:0<t.length:=List.length_pos_iff.2 S
   have M:∀ j u,(ys.map (Value.int .u8))[j]?=some u->w.cell? ((⟨g,0,none⟩:Addr).add j)=some u:=by
    intro j u E;have y:j<ys.length:=(by have:=(List.getElem?_eq_some_iff.1 E).1;simpa using this);rw [Addr.add_lit,Nat.zero_add,h4 j y];simpa [y] using E
   have J:∀ j u,(t.map (Value.int .u8))[j]?=some u->w.cell? ((⟨b,off,none⟩:Addr).add j)=some u:=by
    intro j u E;have y:j<t.length:=(by have:=(List.getElem?_eq_some_iff.1 E).1;simpa using this);rw [Addr.add_lit,hc j y];simpa [y] using E
   have N:=run_append_grow (P:=prog) w 22 22 5 i0 (.int .u8 0) Y O a6 ⟨g,0,none⟩ ys.length ys.length (ys.map (Value.int .u8)) (by rw [D];simp) M ⟨b,off,none⟩ t.length cap (t.map (Value.int .u8)) (by rw [D];simp) J (by omega) (by omega) (growslice_fits (by omega) (by rw [a5];omega));refine ⟨_,_,N,.inl ?_,?_,.inr rfl⟩
   ·have Z:=grownCap_ge w (ys.length+t.length) ys.length 5;have U:=grownCap_le_maxLen w (ys.length+t.length) ys.length 5 (by unfold maxLen;omega);refine ⟨by simp,.inr ⟨w.heap.size,_,_,by rw [List.length_append],hB,heap_alloc_new w.drew _,by simpa using Z,U,?_,?_⟩⟩
    ·simp only [Array.size_append,List.size_toArray,size_zeroCells,List.length_map,Value.cells];simp;omega
    ·simp only [Array.toList_append,List.append_assoc];rw [<- List.append_assoc,<- List.map_append];exact List.take_left' (by simp)
   ·have gd:w.grownBy w.drew (Value.slice (some ⟨g,0,none⟩) ys.length ys.length).ownBlock:=⟨rfl,rfl,rfl,Nat.le_refl _,fun _ _ _=>rfl⟩;exact aA gd gWA
theorem aEP (B:Nat) (w:World) (v:Value) (ys y:List Int) (A:Bw B w v ys) (U:Bys y) (b4:0<y.length) (hB:B<=w.heap.size) (hn:ys.length+y.length<=100000000000) :
  ∃ S w',(Builtin.append_ #[22,9] 22 #[v,.string (strOfNums y)]).run prog w=.ok S w'/\Bw B w' S (ys++y)/\w.grownBy w' v.ownBlock:=by
 have J:Lib.strCells (strOfNums y)=y.map (Value.int .u8):=by
  unfold Lib.strCells;rw [strOfNums_data,List.map_map];refine List.map_congr_left fun z hz=>?_;have:=U z hz;simp only [Function.comp,Value.int.injEq,true_and,UInt8.toNat_ofNat'];omega
 have h:=strOfNums_size y;obtain ⟨i0,hi,O,E,N⟩:=info_parts mF;have ht:=underlying22;have hu:=underlying9;rcases A with A | ⟨g,rfl,h1,h2,h3,h4⟩
 ·obtain ⟨S,w',hr,Z,hg,_⟩:=Lib.run_append_own_string (P:=prog) w B 22 9 22 5 i0 ht hu hi O E N v ys.length _ A (strOfNums y) (by rw [h];unfold maxLen;omega) (by rw [h];omega) hB;exact ⟨S,w',hr,.inl (by unfold OwB Ow;rw [J,h] at Z;simpa using Z),hg⟩
 ·have G:∀ j u,(ys.map (Value.int .u8))[j]?=some u->w.cell? ((⟨g,0,none⟩:Addr).add j)=some u:=by
   intro j u hj;have M:j<ys.length:=(by have:=(List.getElem?_eq_some_iff.1 hj).1;simpa using this);rw [Addr.add_lit,Nat.zero_add,h4 j M];simpa [M] using hj
  have D:=Lib.run_append_grow_string (P:=prog) w 22 9 22 5 i0 (.int .u8 0) ht hu hi O ⟨g,0,none⟩ ys.length ys.length (ys.map (Value.int .u8)) (by rw [E];simp) G (strOfNums y) (by rw [h];omega) (by rw [h];omega) (growslice_fits (by rw [h];omega) (by rw [N,h];omega));rw [J,h] at D;refine ⟨_,_,D,.inl ?_,?_⟩
  ·have Y:=grownCap_ge w (ys.length+y.length) ys.length 5;have X:=grownCap_le_maxLen w (ys.length+y.length) ys.length 5 (by unfold maxLen;omega);refine ⟨by simp,.inr ⟨w.heap.size,_,_,by rw [List.length_append],hB,heap_alloc_new w.drew _,by simpa using Y,X,?_,?_⟩⟩
   ·simp only [Array.size_append,List.size_toArray,size_zeroCells,List.length_map,Value.cells];simp;omega
   ·simp only [Array.toList_append,List.append_assoc];rw [<- List.append_assoc,<- List.map_append];exact List.take_left' (by simp)
  ·have gd:w.grownBy w.drew (Value.slice (some ⟨g,0,none⟩) ys.length ys.length).ownBlock:=⟨rfl,rfl,rfl,Nat.le_refl _,fun _ _ _=>rfl⟩;exact aA gd gWA
theorem aFr (w:World) (x y:Int):Bw w.heap.size (w.alloc (Obj.cells #[.int .u8 x,.int .u8 y] 5 (2,3))) (.slice (some ⟨w.heap.size,0,none⟩) 2 2) [x,y]:=by
 refine .inr ⟨w.heap.size,rfl,Nat.le_refl _,by simp,by simp,fun j h=>?_⟩;have:=World.cell?_alloc_mark w #[.int .u8 x,.int .u8 y] 5 (2,3) j;rw [this]
 match j,h with
 | 0,_=>rfl
 | 1,_=>rfl
end Go.Proofs.YtmfehflibkokbaaGreatDoor
namespace Go.Proofs.YtmfehflibkokbaaGreatDoor
open Go.Proofs.Tryz
open Go.RowKit
attribute [-go_sem] Builtin.append_
theorem aDu (x:List Int):∀ (L:List (List Int)),rW (L++[x])=(L.flatMap fun l=>[aG l,aH 5])++[aG x]
 | []=>rfl
 | [l]=>rfl
 | l::m::L=>by
   have:=aDu x (m::L);simp only [List.cons_append] at this ⊢;simp only [rW,this];simp
theorem zF (t:List Int) (tv:Value) (w:World) (hv:RdB w.heap.size w tv t) (hs:Sl tv t.length) (hn:t.length<=1048576) :
  Calls prog 69 #[.agg #[.bool false,tv]] w fun e w'=>∃ Y,e=.returned Y/\PoR w.heap.size w' Y (aG (47::47::t))/\w.grownBy w' none:=by
 obtain ⟨a,cap,N,a8,a7⟩:=hs;subst N;obtain ⟨W,G⟩:∃ W,W=w.alloc (Obj.cells #[.bool false,.slice a t.length cap] 128):=⟨_,rfl⟩;have J:w.grownBy W none:=(by rw [G];exact gWA);have sW:W.heap.size=w.heap.size+1:=(by rw [G];simp);have kc:=Lib.run_convert_bytes_const (P:=prog) W 22 5 #[.int .u8 47,.int .u8 47] 2 2 underlying22 underlying5;obtain ⟨D,A⟩:∃ D,D=W.alloc (Obj.cells #[.int .u8 47,.int .u8 47] 5 (2,3)):=⟨_,rfl⟩;have h:W.grownBy D none:=(by rw [A];exact gWA);have E:Bw W.heap.size D (.slice (some ⟨W.heap.size,0,none⟩) 2 2) [47,47]:=(by rw [A];exact aFr W 47 47);obtain ⟨v3,w3,y,U,g3,_⟩:=aHf W.heap.size D _ (.slice a t.length cap) [47,47] t E (((hv.K J).K h).wideC (Nat.le_trans J.size h.size)) h.size (by simp;omega);have Z:=aB (jG v3 _ w3 U.rd (by simp;omega));have X:Hid (w.grownBy w3 none):=aA J (bA h g3 (fun j e=>by cases e;exact Nat.le_refl _));obtain ⟨a3,c3,M,_,_⟩:=U.sl;rw [sW] at kc y;subst M;have c1:W.cell? ⟨w.heap.size,0,none⟩=some (.bool false):=(by rw [G];simp [go_sem]);have c2:D.cell? ⟨w.heap.size,1,none⟩=some (.slice a t.length cap):=h.cell (by rw [G];simp [go_sem]) (by simp);subst A G;clear E U J h hv
 go_enter func69,ntmps69
 go_wp2_with fail
 refine Z.out.mono ?_;rintro e w4 ⟨v4,rfl,O,g4⟩;have HO:=aB (O.base X.out.size);obtain ⟨a4,c4,S,_,_⟩:=O.sl;subst S;clear O Z y kc;go_wp2;go_ret;exact ⟨_,rfl,HO.out,aA X.out g4⟩
def txr (L:List (List Int)):List (List Pc):=L.flatMap fun l=>[aG l,aH 5]
theorem aGM (L:List (List Int)) (x:List Int):txr (L++[x])=txr L++[aG x]++[aH 5]:=by simp [txr]
theorem aIU (L:List (List Int)):cR (txr L)<=4*nO L:=by
 induction L with
 | nil=>simp [txr,cR]
 | cons l L ih=>rw [show txr (l::L)=[aG l,aH 5]++txr L by simp [txr],eO];simp only [cR,aG,aH,mes,nO,List.length_nil];omega
theorem aIx (a b:List (List Int)):nO (a++b)=nO a+nO b:=by
 induction a with
 | nil=>simp [nO]
 | cons l a ih=>simp only [List.cons_append,nO,ih];omega
theorem DoR.lt {B:Nat} {w:World} {v:Value} {y:List (List Pc)} (h:DoR B w v y):∀ k,v.ownBlock=some k->B<=k/\k<w.heap.size:=by
 obtain ⟨xs,A,_⟩:=h;exact fun k e=>World.ownsRow.lt A k e
theorem DoR.sl {B:Nat} {w:World} {v:Value} {y:List (List Pc)} (h:DoR B w v y):Sl v y.length:=by
 obtain ⟨a,cap,e,A,D,_⟩:=h.di;exact ⟨a,cap,e,A,D⟩
theorem DoR.push {B:Nat} {w A:World} {v u:Value} {y:List (List Pc)} {G:List Pc} (hv:DoR B w v y) (g:w.grownBy A none) (S:PoR w.heap.size A u G) (hB:B<=w.heap.size) (hn:y.length<=1000000000) :
  ∃ D w',(Builtin.append_ #[89,89] 89 #[v,.slice (some ⟨A.heap.size,0,none⟩) 1 1]).run prog (A.alloc (Obj.cells #[u] 30))=.ok D w'/\DoR B w' D (y++[G])/\w.grownBy w' v.ownBlock/\A.grownBy w' v.ownBlock/\(∃ a cap,D=.slice a (y.length+1) cap)/\∀ x,D.ownBlock=some x->v.ownBlock=some x\/w.heap.size<=x:=by
 have N:=World.grownBy_alloc A (Obj.cells #[u] 30) none;have E:=World.grownBy_alloc A (Obj.cells #[u] 30) v.ownBlock;have hs:=g.size
 obtain ⟨D,w',Y,O,M,U⟩:=aEl B (A.alloc (Obj.cells #[u] 30)) v u A.heap.size y G ((hv.K g).K N) (by simp [go_sem])
  (((S.pi.turn (Zo.on v.ownBlock hB (fun k e=>.inl (hv.lt k e).2)))).K N) (by simp;omega) (by omega)
 have X:w.grownBy A v.ownBlock:=⟨g.os,g.tape,g.output,g.size,fun k Z _=>g.block k Z (by simp)⟩;refine ⟨D,w',Y,O,aA (aA X E) M,aA E M,?_,fun x J=>?_⟩
 ·obtain ⟨a,cap,e,_⟩:=O.sl;exact ⟨a,cap,by simpa using e⟩
 ·rcases U with h | h
  ·exact .inl (by rw [<- h];exact J)
  ·rw [h] at J;cases J;right;simp;omega
theorem aHC (B:Nat) (w:World) (v:Value) (ys:List Int) (z:Int) (y:Bw B w v ys) (S:B<=w.heap.size) (O:ys.length<=10000000000) :
  ∃ h w',(Builtin.append_ #[22,22] 22 #[v,.slice (some ⟨w.heap.size,0,none⟩) 1 1]).run prog (w.alloc (Obj.cells #[.int .u8 z] 5))=.ok h w'/\Bw B w' h (ys++[z])/\w.grownBy w' v.ownBlock/\∃ a cap,h=.slice a (ys.length+1) cap:=by
 have J:=World.grownBy_alloc w (Obj.cells #[.int .u8 z] 5) none;have A:=World.grownBy_alloc w (Obj.cells #[.int .u8 z] 5) v.ownBlock
 obtain ⟨h,w',G,D,E,N⟩:=aHf B (w.alloc (Obj.cells #[.int .u8 z] 5)) v (.slice (some ⟨w.heap.size,0,none⟩) 1 1) ys [z] (y.K J)
  ⟨_,1,rfl,fun _=>⟨w.heap.size,0,rfl,by simp,fun j M=>by
   have:j=0:=by simp at M;omega
   subst this;simp [go_sem]⟩⟩ (by simp;omega) (by simp;omega)
 obtain ⟨a,cap,e,_⟩:=D.sl;exact ⟨h,w',G,D,aA A E,a,cap,by simpa using e⟩
theorem xF (t:List Int) (tv:Value) (w:World) (hv:RdB w.heap.size w tv t) (hs:Sl tv t.length) (hn:t.length<=1000000) :
  Calls prog 69 #[.agg #[.bool true,tv]] w fun e w'=>∃ v',e=.returned v'/\PoR w.heap.size w' v' (cV (rW (spl [] (47::42::t++[42,47]))))/\w.grownBy w' none:=by
 obtain ⟨a,cap,i7,l5,l4⟩:=hs;subst i7;obtain ⟨W,hW⟩:∃ W,W=w.alloc (Obj.cells #[.bool true,.slice a t.length cap] 128):=⟨_,rfl⟩;have gW:w.grownBy W none:=(by rw [hW];exact gWA);have sW:W.heap.size=w.heap.size+1:=(by rw [hW];simp);have kc:=Lib.run_convert_bytes_const (P:=prog) W 22 5 #[.int .u8 47,.int .u8 42] 2 2 underlying22 underlying5;obtain ⟨W2,N⟩:∃ W2,W2=W.alloc (Obj.cells #[.int .u8 47,.int .u8 42] 5 (2,3)):=⟨_,rfl⟩;have b8:W.grownBy W2 none:=(by rw [N];exact gWA);have d3:Bw W.heap.size W2 (.slice (some ⟨W.heap.size,0,none⟩) 2 2) [47,42]:=(by rw [N];exact aFr W 47 42);have c8:W.cell? ⟨w.heap.size,1,none⟩=some (.slice a t.length cap):=(by rw [hW];simp [go_sem]);have i1:Hid (Bw W.heap.size W2 (.slice (some ⟨w.heap.size+1,0,none⟩) 2 2) [47,42]):=(by unfold Hid;rw [<- sW];exact d3);rw [sW] at kc;have GW:=aB gW;have i5:=aB b8;have HV:=aB hv;have h6:=aB c8;have g7:(convert 22 22 (.slice (some ⟨w.heap.size+1,0,none⟩) 2 2)).run prog (W.alloc (Obj.cells #[.int .u8 47,.int .u8 42] 5))=.ok (.slice (some ⟨w.heap.size+1,0,none⟩) 2 2) W2:=(by rw [N];exact kc);rw [hW] at g7;clear kc d3 c8 hv gW b8 N
 go_enter func69,ntmps69
 go_wp2
 go_loopw [3,4,5] (fun rv pv i U=>∃ (k:Nat) (W0:World) (L:List (List Int)) (h:List Int),k<=t.length/\i=.int .i64 k/\W.grownBy W0 none/\W0.grownBy U none/\DoR W.heap.size W0 rv (txr L)/\Bw W0.heap.size U pv h/\spl [47,42] (t++[42,47])=L++spl h (t.drop k++[42,47]))
  (fun _ _ i _=>t.length - (intOf i).toNat)
 case atStart=>exact ⟨0,W,[],[47,42],Nat.zero_le _,rfl,World.grownBy.refl _ _,i5.out,DoR.nil _ _,i1.out,by simp⟩
 case round=>
  obtain ⟨k,W0,L,h,hk,rfl,g0,gU,ho,hb,A⟩:=hrel;have S:=aA g0 gU;have k6:=S.cell h6.out (by simp);have J:=aB A;have HO:=aB ho;have HB:=aB hb;have G0:=aB g0;have GU:=aB gU
  have k7:nO L+h.length+(t.length - k)<=t.length+10:=by
   have h1:=congrArg nO A;rw [qH,aIx,qH] at h1;simp only [List.length_append,List.length_cons,List.length_nil,List.length_drop] at h1;omega
  have l8:=aIU L;have j7:=cN (txr L);obtain ⟨ra,rc,h4,_,_⟩:=ho.sl;obtain ⟨pa,pc,f7,_,_⟩:=hb.sl;subst h4 f7;clear A ho hb g0 gU
  by_cases G:k<t.length
  ·have d4:t.drop k=(t[k]?.getD 0)::t.drop (k+1):=(by rw [List.drop_eq_getElem_cons G];simp [G]);obtain ⟨a',l1,e,hr⟩:=(HV.out.K GW.out).K S;simp only [Value.slice.injEq,true_and] at e;obtain ⟨rfl,rfl⟩:=e;obtain ⟨b,off,rfl,m2,hc⟩:=hr (fun e=>by rw [e] at G;simp at G);have m0:=hc k G;have O:=aB d4;clear hr hc d4;generalize t[k]?.getD 0=p at *
   by_cases hp:p=10
   ·subst hp;have d0:DoR W.heap.size wr (.slice ra (txr L).length rc) (txr L):=HO.out.K GU.out;have i9:=S.size;have HC:=aB (jG (.slice pa h.length pc) h wr HB.out.rd (by omega));have HW:=aB d0;clear d0
    go_wp2_with fail
    refine HC.out.mono ?_;rintro e w1 ⟨v1,rfl,o1,g1⟩;obtain ⟨v2,w2,E,M,g2,i4,⟨a2,c2,y⟩,h2⟩:=HW.out.push g1 o1 (by omega) (by omega);obtain ⟨a1,c1,h0,_,_⟩:=o1.sl;have D:W.grownBy w2 none:=bA S g2 (fun j e=>(HO.out.lt j e).1);have k5:=D.size;have X:=aB M;have HX:=aB (dJ 5 w2);have a8:∀ x,v2.ownBlock=some x->W.heap.size<=x:=fun x e=>(M.lt x e).1;have j3:=aB a8;have d6:=aB D;subst h0 y;clear HC o1 M g1 g2 i4 h2 a8 D
    go_wp2_with fail
    refine HX.out.mono ?_;rintro e w3 ⟨v3,rfl,o3,g3⟩;obtain ⟨v4,w4,b5,o4,g4,_,⟨a4,c4,Y⟩,_⟩:=X.out.push g3 o3 (by omega) (by simp;omega);obtain ⟨a3,c3,b2,_,_⟩:=o3.sl;have j4:=aB (bA d6.out g4 j3.out);have h3:Hid (DoR W.heap.size w4 v4 (txr (L++[h]))):=by unfold Hid;rw [aGM];exact o4
    have j6:Hid (spl [47,42] (t++[42,47])=(L++[h])++spl [] (t.drop (k+1)++[42,47])):=by
     unfold Hid;rw [J.out,O.out,List.cons_append,spl,if_pos rfl];simp
    have f5:(txr L++[aG h]).length+1=(txr L).length+1+1:=(by simp);rw [f5] at Y;subst b2 Y;clear HX o3 o4 g3 g4 X J O HW;go_wp2
    go_roundw
    case rel=>exact ⟨k+1,w4,L++[h],[],by omega,by go_num,j4.out,World.grownBy.refl _ _,h3.out,Bw.nil _ _,j6.out⟩
    case measure=>simp [intOf];omega
   ·obtain ⟨v2,w2,E,M,g2,a2,c2,y⟩:=aHC W0.heap.size wr (.slice pa h.length pc) h p HB.out GU.out.size (by omega);have f8:=aB (bA GU.out g2 (fun j e=>(HB.out.lt j e).1));have X:=aB M
    have j2:Hid (spl [47,42] (t++[42,47])=L++spl (h++[p]) (t.drop (k+1)++[42,47])):=by
     unfold Hid;rw [J.out,O.out,List.cons_append,spl,if_neg hp]
    subst y;clear M g2 J O;go_wp2
    go_roundw
    case rel=>exact ⟨k+1,W0,L,h++[p],by omega,by go_num,G0.out,f8.out,HO.out,X.out,j2.out⟩
    case measure=>simp [intOf];omega
  ·have c9:t.drop k=[]:=List.drop_of_length_le (by omega)
   have A:spl [] (47::42::t++[42,47])=L++[h++[42,47]]:=by
    have h1:=J.out;rw [c9] at h1;rw [show (47::42::t++[42,47]:List Int)=47::42::(t++[42,47]) by simp,spl,if_neg (by omega),spl,if_neg (by omega)];simpa [spl] using h1
   have i8:=aB (show rW (spl [] (47::42::t++[42,47]))=txr L++[aG (h++[42,47])] by rw [A,aDu];rfl);obtain ⟨v2,w2,E,M,g2⟩:=aEP W0.heap.size wr (.slice pa h.length pc) h [42,47] HB.out (by intro z hz;simp at hz;omega) (by simp) GU.out.size (by simp;omega);rw [show strOfNums [42,47] = { data:=#[42,47] } by rfl] at E;have c0:=bA GU.out g2 (fun j e=>(HB.out.lt j e).1);have HC:=aB (jG v2 _ w2 M.rd (by simp;omega));have HW:=aB (HO.out.K c0);have a6:=aB (aA G0.out c0);have i9:=a6.out.size;obtain ⟨a2,c2,y,_,_⟩:=M.sl;have b9:(h++([42,47]:List Int)).length=h.length+2:=(by simp);rw [b9] at y;clear b9;subst y;clear M g2 A c9
   go_wp2_with fail
   refine HC.out.mono ?_;rintro e w3 ⟨v3,rfl,o3,g3⟩;obtain ⟨v4,w4,b5,o4,g4,_,⟨a4,c4,Y⟩,_⟩:=HW.out.push g3 o3 (by omega) (by omega);obtain ⟨a3,c3,b2,_,_⟩:=o3.sl;have b0:=bA a6.out g4 (fun j e=>(HO.out.lt j e).1);have b7:=b0.size;have g6:w.heap.size<=W.heap.size:=GW.out.size;have HR:=aB (fV v4 _ W.heap.size w4 o4.di b7 (by rw [eO];simp only [cR,aG,mes,List.length_append,List.length_cons,List.length_nil];omega));have i2:=aB (aA GW.out b0);subst b2 Y;clear HC o3 o4 g3 g4 HW b0
   go_wp2_with fail
   refine HR.out.mono ?_;rintro e w5 ⟨v5,rfl,o5,g5⟩;obtain ⟨a5,c5,j1,_,_⟩:=o5.sl;have j5:=aB (o5.base g6);have j0:=aB (aA i2.out g5);generalize (cV (txr L++[aG (h++[42,47])])).length=L5 at *;subst j1;clear o5 g5 HR;go_wp2;go_ret;refine ⟨_,rfl,?_,j0.out⟩;have Z:=j5.out;rw [<- i8.out] at Z;exact Z
theorem rZ (c:Cm) (tv:Value) (w:World) (hv:RdB w.heap.size w tv c.t) (A:Sl tv c.t.length) (h:c.t.length<=1000000) :
  Calls prog 69 #[.agg #[.bool c.b,tv]] w fun e w'=>∃ y,e=.returned y/\PoR w.heap.size w' y (jJ c)/\w.grownBy w' none:=by
 obtain ⟨b,t⟩:=c;cases b with
 | false=>exact zF t tv w hv A (Nat.le_trans h (by omega))
 | true=>exact xF t tv w hv A h
theorem aCl (y:List Cm):∀ c∈y,4*c.t.length+30<=wC y:=by
 induction y with
 | nil=>simp
 | cons d y ih=>
   intro c A;simp only [wC];rcases List.mem_cons.1 A with rfl | h
   ·omega
   ·have:=ih c h;omega
theorem aCE (h:List Cm):30*h.length<=wC h:=by
 induction h with
 | nil=>simp
 | cons d h ih=>simp only [wC,List.length_cons];omega
theorem rK (y:List Cm) (k:Nat):cR (bM (y.take k))<=wC y/\cR (cU (y.take k))<=wC y:=by
 have h:wC (y.take k)<=wC y:=by
  have A:∀ (a b:List Cm),wC (a++b)=wC a+wC b:=by
   intro a b
   induction a with
   | nil=>simp [wC]
   | cons c a ih=>simp only [List.cons_append,wC,ih];omega
  have D:=A (y.take k) (y.drop k);rw [List.take_append_drop] at D;omega
 exact ⟨Nat.le_trans (iB _) h,Nat.le_trans (kS _) h⟩
theorem rC {q:IntKind} {B:Nat} {w w':World} {v:Value} {zs:List Int} (h:Rd q B w v zs) (g:Below B w w') (M:B<=w.heap.size):Rd q w'.heap.size w' v zs:=by
 obtain ⟨a,cap,e,D⟩:=h;refine ⟨a,cap,e,fun y=>?_⟩;obtain ⟨b,off,E,G,A⟩:=D y;have:=g.size;exact ⟨b,off,E,by omega,fun j J=>by rw [g.cell (by simpa using G)];exact A j J⟩
theorem eH {B:Nat} {w w':World} {v:Value} {N:List Cm} (h:RdC B w v N) (g:Below B w w'):RdC B w' v N:=by
 obtain ⟨a,cap,hv,h1,h2,S⟩:=h;refine ⟨a,cap,hv,h1,h2,fun Z=>?_⟩;obtain ⟨b,off,U,G,Y⟩:=S Z;refine ⟨b,off,U,G,fun j p hp=>?_⟩;obtain ⟨tv,O,c1,⟨a2,D,e2,M⟩,hs⟩:=Y j p hp;refine ⟨tv,by rw [g.cell (by simpa using G)];exact O,by rw [g.cell (by simpa using G)];exact c1,⟨a2,D,e2,fun h3=>?_⟩,hs⟩;obtain ⟨b2,A,J,y,E⟩:=M h3;exact ⟨b2,A,J,y,fun j X=>by rw [g.cell (by simpa using y)];exact E j X⟩
theorem iH (rv cv:Value) (A:List (List Pc)) (h:List Cm) (B:Nat) (w:World) (G:DoR B w rv A) (hB:B<=w.heap.size) (hc:RdC B w cv h) (hn:wC h<=4000000) (hd:A.length<=100000000) :
  Calls prog 40 #[rv,cv] w fun e w'=>∃ v',e=.returned v'/\DoR B w' v' (A++bM h)/\Below B w w':=by
 have b8:=aB hc;have h5:=aCE h;obtain ⟨a,cap,b9,_,_,_⟩:=id hc;obtain ⟨h8,h7,E,_,_⟩:=G.sl;have c7:=aB G;subst b9 E;clear hc G
 go_enter func40,ntmps40
 go_wp2
 go_loopw [0,5] (fun r i W=>∃ (k:Nat),k<=h.length/\i=.int .i64 k/\DoR B W r (A++bM (h.take k))/\Below B w W)
  (fun _ i _=>h.length - (intOf i).toNat)
 case atStart=>exact ⟨0,Nat.zero_le _,rfl,by simpa [bM] using c7.out,Below.refl _ _⟩
 case round=>
  obtain ⟨k,hk,rfl,G,D⟩:=hrel;have i2:=D.size
  have M:RdC B wr (.slice a h.length cap) h:=by
   have hg:wr.heap.size=wr.heap.size:=rfl;exact eH b8.out D
  obtain ⟨ra,rc,E,_,_⟩:=G.sl
  by_cases N:k<h.length
  ·obtain ⟨b,off,f8,tv,d0,h3,c0,c1,Z,O⟩:=M.at k N;cases d0;have hm:=aCl h h[k] (List.getElem_mem N);have g9:=(rK h k).1;have f7:(A++bM (h.take k)).length<=200000000:=(by have:=cN (bM (h.take k));rw [List.length_append];omega);have HC:Hid (∀ W:World,Below B wr W->_):=fun W (g:Below B wr W)=>rZ h[k] tv W (rC Z g (by omega)) O (by omega);have HL:Hid (∀ W:World,_):=fun W=>dJ 4 W;obtain ⟨ta,tc,c6,_,_⟩:=O
   have HE:Hid (A++bM (h.take (k+1))=(A++bM (h.take k))++[jJ h[k]]++[aH 4]):=by
    unfold Hid;rw [show h.take (k+1)=h.take k++[h[k]] by rw [List.take_add_one];simp [N],aBz];simp
   have Y:=aB G;have U:=aB D;generalize J:(A++bM (h.take k)).length=LL at *;subst c6 E;clear Z G M D;have b4:∀ x,(Value.slice ra LL rc).ownBlock=some x->B<=x:=fun x e=>(Y.out.lt x e).1;generalize h[k]=c at *
   go_wp2_with fail
   refine (HC.out _ (Below.refl _ _)).mono ?_;rintro e w1 ⟨v1,rfl,o1,g1⟩;obtain ⟨v2,w2,f5,o2,g2,c5,⟨a2,c2,S⟩,h2⟩:=Y.out.push g1 o1 (by omega) (by omega);obtain ⟨a1,h9,b2,_,_⟩:=o1.sl;have y:Below B wr w2:=(Below.refl B wr).grown g2 (by omega) b4;have d9:=y.size;have d1:w2.cell? ⟨b,off+k*2,none⟩=some (.bool c.b):=(by rw [y.cell (by simp;omega)];exact c0);have X:w2.cell? ⟨b,off+k*2+1,none⟩=some (.slice ta c.t.length tc):=(by rw [y.cell (by simp;omega)];exact c1);have b6:=aB y;have a5:=aB o2;rw [J] at S;have c8:Hid (∀ x,v2.ownBlock=some x->B<=x):=fun x e=>(o2.lt x e).1;subst b2 S;clear o1 o2 g1 g2 c5 h2 y
   go_wp2_with fail
   refine (HL.out _).mono ?_;rintro e w3 ⟨v3,rfl,o3,g3⟩;obtain ⟨v4,w4,d6,o4,g4,_,⟨a4,c4,a6⟩,_⟩:=a5.out.push g3 o3 (by omega) (by rw [List.length_append,J];simp;omega);obtain ⟨a3,c3,b0,_,_⟩:=o3.sl;rw [List.length_append,J,List.length_singleton] at a6;have c9:=aB (U.out.trans (b6.out.trans ((Below.refl B w2).grown g4 (by omega) c8.out)));have b3:Hid (DoR B w4 v4 (A++bM (h.take (k+1)))):=(by unfold Hid;rw [HE.out];exact o4);subst b0 a6;clear o3 o4 g3 g4 HE a5 Y HC HL J c0 c1 d1 X;go_wp2
   go_roundw
   case rel=>exact ⟨k+1,by omega,by go_num,b3.out,c9.out⟩
   case measure=>simp [intOf];omega
  ·have b7:k=h.length:=(by omega);subst b7;rw [List.take_length] at G E;have Y:=aB G;subst E;clear G M;generalize (A++bM h).length=LL at *;go_wp2;go_ret;exact ⟨_,rfl,Y.out,D⟩
theorem mX (rv cv:Value) (A:List (List Pc)) (h:List Cm) (B:Nat) (w:World) (G:DoR B w rv A) (hB:B<=w.heap.size) (hc:RdC B w cv h) (hn:wC h<=4000000) (hd:A.length<=100000000) :
  Calls prog 73 #[rv,cv] w fun e w'=>∃ v',e=.returned v'/\DoR B w' v' (A++cU h)/\Below B w w':=by
 have b8:=aB hc;have h5:=aCE h;obtain ⟨a,cap,b9,_,_,_⟩:=id hc;obtain ⟨h8,h7,E,_,_⟩:=G.sl;have c7:=aB G;subst b9 E;clear hc G
 go_enter func73,ntmps73
 go_wp2
 go_loopw [0,5] (fun r i W=>∃ (k:Nat),k<=h.length/\i=.int .i64 k/\DoR B W r (A++cU (h.take k))/\Below B w W)
  (fun _ i _=>h.length - (intOf i).toNat)
 case atStart=>exact ⟨0,Nat.zero_le _,rfl,by simpa [cU] using c7.out,Below.refl _ _⟩
 case round=>
  obtain ⟨k,hk,rfl,G,D⟩:=hrel;have i2:=D.size
  have M:RdC B wr (.slice a h.length cap) h:=by
   have hg:wr.heap.size=wr.heap.size:=rfl;exact eH b8.out D
  obtain ⟨ra,rc,E,_,_⟩:=G.sl
  by_cases N:k<h.length
  ·obtain ⟨b,off,f8,tv,d0,h3,c0,c1,a5,O⟩:=M.at k N;cases d0;have hm:=aCl h h[k] (List.getElem_mem N);have g9:=(rK h k).2;have f7:(A++cU (h.take k)).length<=200000000:=(by have:=cN (cU (h.take k));rw [List.length_append];omega);have HC:Hid (∀ W:World,Below B wr W->_):=fun W (g:Below B wr W)=>rZ h[k] tv W (rC a5 g (by omega)) O (by omega);have HL:Hid (∀ W:World,_):=fun W=>dJ 4 W;obtain ⟨ta,tc,c6,_,_⟩:=O
   have HE:Hid (A++cU (h.take (k+1))=(A++cU (h.take k))++[aH 4]++[jJ h[k]]):=by
    unfold Hid;rw [show h.take (k+1)=h.take k++[h[k]] by rw [List.take_add_one];simp [N],aA5];simp
   have Z:=aB G;have U:=aB D;generalize J:(A++cU (h.take k)).length=LL at *;subst c6 E;clear a5 G M D;have b5:∀ x,(Value.slice ra LL rc).ownBlock=some x->B<=x:=fun x e=>(Z.out.lt x e).1;generalize h[k]=c at *
   go_wp2_with fail
   refine (HL.out _).mono ?_;rintro e w1 ⟨v1,rfl,o1,g1⟩;obtain ⟨v2,w2,f5,o2,g2,c5,⟨a2,c2,S⟩,h2⟩:=Z.out.push g1 o1 (by omega) (by omega);obtain ⟨a1,h9,b3,_,_⟩:=o1.sl;have y:Below B wr w2:=(Below.refl B wr).grown g2 (by omega) b5;have d9:=y.size;have d1:w2.cell? ⟨b,off+k*2,none⟩=some (.bool c.b):=(by rw [y.cell (by simp;omega)];exact c0);have Y:w2.cell? ⟨b,off+k*2+1,none⟩=some (.slice ta c.t.length tc):=(by rw [y.cell (by simp;omega)];exact c1);have X:=aB y;have a6:=aB o2;rw [J] at S;have c8:Hid (∀ x,v2.ownBlock=some x->B<=x):=fun x e=>(o2.lt x e).1;subst b3 S;clear o1 o2 g1 g2 c5 h2 y
   go_wp2_with fail
   refine (HC.out _ X.out).mono ?_;rintro e w3 ⟨v3,rfl,o3,g3⟩;obtain ⟨v4,w4,d6,o4,g4,_,⟨a4,c4,a7⟩,_⟩:=a6.out.push g3 o3 (by omega) (by rw [List.length_append,J];simp;omega);obtain ⟨a3,c3,b1,_,_⟩:=o3.sl;rw [List.length_append,J,List.length_singleton] at a7;have c9:=aB (U.out.trans (X.out.trans ((Below.refl B w2).grown g4 (by omega) c8.out)));have b4:Hid (DoR B w4 v4 (A++cU (h.take (k+1)))):=(by unfold Hid;rw [HE.out];exact o4);subst b1 a7;clear o3 o4 g3 g4 HE a6 Z HC HL J c0 c1 d1 Y;go_wp2
   go_roundw
   case rel=>exact ⟨k+1,by omega,by go_num,b4.out,c9.out⟩
   case measure=>simp [intOf];omega
  ·have b7:k=h.length:=(by omega);subst b7;rw [List.take_length] at G E;have Z:=aB G;subst E;clear G M;generalize (A++cU h).length=LL at *;go_wp2;go_ret;exact ⟨_,rfl,Z.out,D⟩
end Go.Proofs.YtmfehflibkokbaaGreatDoor
namespace Go.Proofs.YtmfehflibkokbaaGreatDoor
open Go.Proofs.Tryz
open Go.RowKit
attribute [-go_sem] run_index_string
theorem iE {B:Nat} {y:World} {A:Value} {ys xs:List Int} (s:ByteArray) (E:Lib.strCells s=xs.map (Value.int .u8)) (n:Nat) (D:n=(ys++xs).length)
  (h:y.ownsRow B 5 1 A n (ys.map (Value.int .u8)++Lib.strCells s)):OwB B y A (ys++xs):=by
 subst D;unfold OwB Ow;rw [List.map_append,<- E];exact h
theorem cZ {B:Nat} {w w':World} {v:Value} {zs:List Int} (A:B<=w.heap.size) (h:OwB B w v zs) (y:w.grownBy w' v.ownBlock):Below B w w':=
 ⟨y.os,y.tape,y.output,y.size,fun k D=>y.block k (by omega) (fun e=>by have:=(World.ownsRow.lt h k e.symm).1;omega)⟩
theorem iX (B:Nat) (v:Value) (ys:List Int) (p:Int) (w:World) (hB:B<=w.heap.size) (h:OwB B w v ys) (hn:ys.length<=8388608) (b2:0<=p) (b6:p<65536) :
  Calls prog 169 #[v,.int .i32 p] w fun e w'=>∃ Z,e=.returned Z/\OwB B w' Z (ys++dH p)/\Below B w w':=by
 obtain ⟨i0,hi,U,J,S⟩:=info_parts mF;have N:=fun q=>aL9 q;unfold aAE at N
 go_enter func169,ntmps169
 go_wp2_with (at_builtin;refine Lib.wpList_append_own_string _ rfl _ _ 22 9 rfl B 5 i0 underlying22 underlying9 hi U J S _ _ _ rfl h { data:=#[92,117] } rfl (by unfold maxLen;simp [ByteArray.size];omega) (by simp [ByteArray.size];omega) hB ?_;intro v1 w1 M E _)
 have o1:OwB B w1 v1 (ys++[92,117]):=iE _ rfl _ (by simp [ByteArray.size]) M;have b1:=cZ hB h E;clear M E h
 go_loopw [0,5] (fun v i wr=>∃ j:Nat,j<=4/\i=.int .i64 (12 - 4*(j:Int))/\OwB B wr v (ys++(dH p).take (2+j))/\Below B w wr)
  (fun _ i _=>(intOf i+4).toNat)
 case atStart=>exact ⟨0,by omega,rfl,o1,b1⟩
 case round=>
  obtain ⟨j,hj,rfl,h,G⟩:=hrel;clear o1 b1;have X:=Nat.le_trans hB G.size;have D:(ys++(dH p).take (2+j)).length=ys.length+(2+j):=by simp [dH];omega
  match j,hj with
  | 0,_=>
    have Y:=fun W=>N (p / 4096) W;have ha:bits .and .i32 (p / 4096) 15=p / 4096%16:=aFe _ (by omega) (by omega)
    go_wp2_with (at_builtin;refine wpList_append_own _ rfl _ _ 22 rfl B 5 i0 (.int .u8 0) 1 1 underlying22 hi U J S rfl (by decide) _ _ _ rfl (World.ownsRow.alloc h _) ⟨wr.heap.size,0,none⟩ 1 1 [.int .u8 (mR (p / 4096%16))] rfl rfl (cell_one_new _ _ _) (by intro u O;simp at O;subst O;rfl) (by rw [D];unfold maxLen;omega) (by rw [D];omega) (by simp;omega) ?_;intro Z w2 y A _)
    have R:=eK (xs:=[mR (p / 4096%16)]) _ X h y (by simp;omega) A;clear y A h;go_wp2
    go_roundw
    case rel=>exact ⟨1,by omega,by go_num,by simpa [dH] using R.1,G.trans R.2⟩
    case measure=>simp [intOf]
  | 1,_=>
    have Y:=fun W=>N (p / 256) W;have ha:bits .and .i32 (p / 256) 15=p / 256%16:=aFe _ (by omega) (by omega)
    go_wp2_with (at_builtin;refine wpList_append_own _ rfl _ _ 22 rfl B 5 i0 (.int .u8 0) 1 1 underlying22 hi U J S rfl (by decide) _ _ _ rfl (World.ownsRow.alloc h _) ⟨wr.heap.size,0,none⟩ 1 1 [.int .u8 (mR (p / 256%16))] rfl rfl (cell_one_new _ _ _) (by intro u O;simp at O;subst O;rfl) (by rw [D];unfold maxLen;omega) (by rw [D];omega) (by simp;omega) ?_;intro Z w2 y A _)
    have R:=eK (xs:=[mR (p / 256%16)]) _ X h y (by simp;omega) A;clear y A h;go_wp2
    go_roundw
    case rel=>exact ⟨2,by omega,by go_num,by simpa [dH] using R.1,G.trans R.2⟩
    case measure=>simp [intOf]
  | 2,_=>
    have Y:=fun W=>N (p / 16) W;have ha:bits .and .i32 (p / 16) 15=p / 16%16:=aFe _ (by omega) (by omega)
    go_wp2_with (at_builtin;refine wpList_append_own _ rfl _ _ 22 rfl B 5 i0 (.int .u8 0) 1 1 underlying22 hi U J S rfl (by decide) _ _ _ rfl (World.ownsRow.alloc h _) ⟨wr.heap.size,0,none⟩ 1 1 [.int .u8 (mR (p / 16%16))] rfl rfl (cell_one_new _ _ _) (by intro u O;simp at O;subst O;rfl) (by rw [D];unfold maxLen;omega) (by rw [D];omega) (by simp;omega) ?_;intro Z w2 y A _)
    have R:=eK (xs:=[mR (p / 16%16)]) _ X h y (by simp;omega) A;clear y A h;go_wp2
    go_roundw
    case rel=>exact ⟨3,by omega,by go_num,by simpa [dH] using R.1,G.trans R.2⟩
    case measure=>simp [intOf]
  | 3,_=>
    have Y:=fun W=>N (p) W;have ha:bits .and .i32 (p) 15=p%16:=aFe _ (by omega) (by omega)
    go_wp2_with (at_builtin;refine wpList_append_own _ rfl _ _ 22 rfl B 5 i0 (.int .u8 0) 1 1 underlying22 hi U J S rfl (by decide) _ _ _ rfl (World.ownsRow.alloc h _) ⟨wr.heap.size,0,none⟩ 1 1 [.int .u8 (mR (p%16))] rfl rfl (cell_one_new _ _ _) (by intro u O;simp at O;subst O;rfl) (by rw [D];unfold maxLen;omega) (by rw [D];omega) (by simp;omega) ?_;intro Z w2 y A _)
    have R:=eK (xs:=[mR (p%16)]) _ X h y (by simp;omega) A;clear y A h;go_wp2
    go_roundw
    case rel=>exact ⟨4,by omega,by go_num,by simpa [dH] using R.1,G.trans R.2⟩
    case measure=>simp [intOf]
  | 4,_=>
    go_wp2;go_ret;exact ⟨_,rfl,h,G⟩
end Go.Proofs.YtmfehflibkokbaaGreatDoor
namespace Go.Proofs.YtmfehflibkokbaaGreatDoor
open Go.Proofs.Tryz
open Go.RowKit
theorem aEz (p:Int) (h:0<=p) (y:p<=1114111):bits .or .u8 128 (bits .and .i32 p 63%256)=128+p%64:=by
 rw [aL6 p h (by omega),show p%64%256=p%64 by omega,aLT _ (by omega) (by omega)]
theorem tA (p:Int) (w:World) (y:0<=p) (h:p<=1114111):Calls prog 182 #[.int .i32 p] w fun e w'=>e=.returned (.int .u8 (128+p%64))/\w=w':=by
 have A:Hid (bits .or .u8 128 (bits .and .i32 p 63%256)=128+p%64):=aEz p y h
 go_enter func182,ntmps182
 go_wp2;go_ret;exact ⟨by rw [<- A.out];rfl,rfl⟩
theorem vK (w:World) (x y:Value) (t:TypeId):∀ j u,[x,y][j]?=some u->(w.alloc (.cells #[x,y] t)).cell? ((⟨w.heap.size,0,none⟩:Addr).add j)=some u:=by
 intro j u h
 match j,h with
 | 0,h=>simp at h;subst h;simp [Addr.add]
 | 1,h=>simp at h;subst h;simp [Addr.add]
theorem aDA (w:World) (x y z:Value) (t:TypeId):∀ j u,[x,y,z][j]?=some u->(w.alloc (.cells #[x,y,z] t)).cell? ((⟨w.heap.size,0,none⟩:Addr).add j)=some u:=by
 intro j u h
 match j,h with
 | 0,h=>simp at h;subst h;simp [Addr.add]
 | 1,h=>simp at h;subst h;simp [Addr.add]
 | 2,h=>simp at h;subst h;simp [Addr.add]
theorem aEy (w:World) (x y z s:Value) (t:TypeId):∀ j u,[x,y,z,s][j]?=some u->(w.alloc (.cells #[x,y,z,s] t)).cell? ((⟨w.heap.size,0,none⟩:Addr).add j)=some u:=by
 intro j u h
 match j,h with
 | 0,h=>simp at h;subst h;simp [Addr.add]
 | 1,h=>simp at h;subst h;simp [Addr.add]
 | 2,h=>simp at h;subst h;simp [Addr.add]
 | 3,h=>simp at h;subst h;simp [Addr.add]
theorem aAl (B:Nat) (v:Value) (ys:List Int) (p:Int) (w:World) (O:B<=w.heap.size) (U:Tab w) (A:OwB B w v ys) (hn:ys.length<=8388608) (a8:0<=p) (a9:p<=1114111) :
  Calls prog 170 #[v,.int .i32 p] w fun e w'=>∃ N,e=.returned N/\OwB B w' N (ys++enc p)/\Below B w w':=by
 obtain ⟨X,S,J,E,G⟩:=info_parts mF;have t1:=U.c1;have t2:=U.c2;have t3:=U.c3;clear U
 by_cases h1:p<128
 ·have M:Hid (enc p=[p]):=wB p h1;have Z:p%256=p:=by omega
  go_enter func170,ntmps170
  go_wp2_with (first
   | (at_builtin;refine wpList_append_own _ rfl _ _ 22 rfl B 5 X (.int .u8 0) 1 1 underlying22 S J E G rfl (by decide) _ _ _ rfl (World.ownsRow.alloc A _) ⟨w.heap.size,0,none⟩ 1 1 [.int .u8 p] rfl rfl (cell_one_new _ _ _) (by intro u D;simp at D;subst D;rfl) (by unfold maxLen;omega) (by omega) (by simp;omega) ?_;intro N Y h y _))
  have R:=eK (xs:=[p]) _ O A h (by simp) y;clear h y A;go_wp2;go_ret;exact ⟨_,rfl,by rw [M.out];exact R.1,R.2⟩
 ·by_cases h2:p<2048
  ·have M:Hid (enc p=[192+p / 64,128+p%64]):=aEM p h1 h2;have hb:bits .or .u8 192 (p / 64)=192+p / 64:=aLU _ (by omega) (by omega);have Z:p / 64%256=p / 64:=by omega
   go_enter func170,ntmps170
   go_wp2_with (first
    | (go_at_call 182;refine (tA _ _ (by omega) (by omega)).mono ?_;rintro e w' ⟨rfl,rfl⟩)
    | (at_builtin;refine wpList_append_own _ rfl _ _ 22 rfl B 5 X (.int .u8 0) 1 1 underlying22 S J E G rfl (by decide) _ _ _ rfl (World.ownsRow.alloc A _) ⟨w.heap.size,0,none⟩ 2 2 [.int .u8 (192+p / 64),.int .u8 (128+p%64)] rfl rfl (vK _ _ _ _) (by intro u D;simp at D;rcases D with rfl | rfl<;>rfl) (by unfold maxLen;omega) (by omega) (by simp;omega) ?_;intro N Y h y _))
   have R:=eK (xs:=[192+p / 64,128+p%64]) _ O A h (by simp) y;clear h y A;go_wp2;go_ret;exact ⟨_,rfl,by rw [M.out];exact R.1,R.2⟩
  ·by_cases h3:p<65536
   ·have M:Hid (enc p=[224+p / 4096,128+p / 64%64,128+p%64]):=aEr p h2 h3;have hb:bits .or .u8 224 (p / 4096)=224+p / 4096:=aLW _ (by omega) (by omega);have Z:p / 4096%256=p / 4096:=by omega
    go_enter func170,ntmps170
    go_wp2_with (first
     | (go_at_call 182;refine (tA _ _ (by omega) (by omega)).mono ?_;rintro e w' ⟨rfl,rfl⟩)
     | (at_builtin;refine wpList_append_own _ rfl _ _ 22 rfl B 5 X (.int .u8 0) 1 1 underlying22 S J E G rfl (by decide) _ _ _ rfl (World.ownsRow.alloc A _) ⟨w.heap.size,0,none⟩ 3 3 [.int .u8 (224+p / 4096),.int .u8 (128+p / 64%64),.int .u8 (128+p%64)] rfl rfl (aDA _ _ _ _ _) (by intro u D;simp at D;rcases D with rfl | rfl | rfl<;>rfl) (by unfold maxLen;omega) (by omega) (by simp;omega) ?_;intro N Y h y _))
    have R:=eK (xs:=[224+p / 4096,128+p / 64%64,128+p%64]) _ O A h (by simp) y;clear h y A;go_wp2;go_ret;exact ⟨_,rfl,by rw [M.out];exact R.1,R.2⟩
   ·have M:Hid (enc p=[240+p / 262144,128+p / 4096%64,128+p / 64%64,128+p%64]):=aEV p h3;have hb:bits .or .u8 240 (p / 262144)=240+p / 262144:=aL5 _ (by omega) (by omega);have Z:p / 262144%256=p / 262144:=by omega
    go_enter func170,ntmps170
    go_wp2_with (first
     | (go_at_call 182;refine (tA _ _ (by omega) (by omega)).mono ?_;rintro e w' ⟨rfl,rfl⟩)
     | (at_builtin;refine wpList_append_own _ rfl _ _ 22 rfl B 5 X (.int .u8 0) 1 1 underlying22 S J E G rfl (by decide) _ _ _ rfl (World.ownsRow.alloc A _) ⟨w.heap.size,0,none⟩ 4 4 [.int .u8 (240+p / 262144),.int .u8 (128+p / 4096%64),.int .u8 (128+p / 64%64),.int .u8 (128+p%64)] rfl rfl (aEy _ _ _ _ _ _) (by intro u D;simp at D;rcases D with rfl | rfl | rfl | rfl<;>rfl) (by unfold maxLen;omega) (by omega) (by simp;omega) ?_;intro N Y h y _))
    have R:=eK (xs:=[240+p / 262144,128+p / 4096%64,128+p / 64%64,128+p%64]) _ O A h (by simp) y;clear h y A;go_wp2;go_ret;exact ⟨_,rfl,by rw [M.out];exact R.1,R.2⟩
end Go.Proofs.YtmfehflibkokbaaGreatDoor
