import Derived.Lib.AppendStr
import Derived.Lib.SlBytesConst
import Derived.Test.YtgifkcpdihphlaaGreatDoorMAT
set_option maxHeartbeats 16000000
set_option maxRecDepth 100000
namespace Go.Proofs.YtgifkcpdihphlaaGreatDoor
open Tryz
open Go.RowKit
def Bw (B:Nat) (w:World) (v:Value) (zs:List Int):Prop:=
 OwB B w v zs\/∃ g,v=.slice (some ⟨g,0,none⟩) zs.length zs.length/\B<=g/\g<w.heap.size/\zs.length<=1000/\∀ j,j<zs.length->w.cell? ⟨g,j,none⟩=some (.int .u8 (zs[j]?.getD 0))
theorem Bw.lt {B:Nat} {w:World} {v:Value} {zs:List Int} (h:Bw B w v zs):∀ k,v.ownBlock=some k->B<=k/\k<w.heap.size:=by
 rcases h with h | ⟨g,rfl,u,j,_⟩
 ·exact fun k e=>World.ownsRow.lt h k e
 ·intro k e;cases e;exact ⟨u,j⟩
theorem Bw.K {B:Nat} {w w':World} {v:Value} {zs:List Int} (h:Bw B w v zs) (g:w.grownBy w' none):Bw B w' v zs:=by
 rcases h with h | ⟨x,rfl,A,D,y,u⟩
 ·exact .inl (h.later g)
 ·exact .inr ⟨x,rfl,A,Nat.lt_of_lt_of_le D g.size,y,fun j E=>g.cell (u j E) (by simp)⟩
theorem Bw.rd {B:Nat} {w:World} {v:Value} {zs:List Int} (h:Bw B w v zs):RdB w.heap.size w v zs:=by
 rcases h with h | ⟨g,rfl,E,y,D,u⟩
 ·exact h.rd
 ·exact ⟨_,_,rfl,fun _=>⟨g,0,rfl,y,fun j A=>by rw [Nat.zero_add];exact u j A⟩⟩
theorem Bw.sl {B:Nat} {w:World} {v:Value} {zs:List Int} (h:Bw B w v zs):Sl v zs.length:=by
 rcases h with h | ⟨g,rfl,u,y,A,j⟩
 ·exact h.sl
 ·exact ⟨_,_,rfl,Nat.le_refl _,by unfold maxLen;omega⟩
theorem Bw.base {B B':Nat} {w:World} {v:Value} {zs:List Int} (h:Bw B w v zs) (j:B'<=B):Bw B' w v zs:=by
 rcases h with h | ⟨g,rfl,D,A,y,u⟩
 ·exact .inl (bH j h)
 ·exact .inr ⟨g,rfl,by omega,A,y,u⟩
theorem Bw.nil (B:Nat) (w:World):Bw B w (.slice none 0 0) []:=.inl ⟨by simp,.inl ⟨rfl,rfl⟩⟩
theorem nD (B:Nat) (w:World) (v tv:Value) (ys t:List Int) (h:Bw B w v ys) (L:RdB w.heap.size w tv t) (hB:B<=w.heap.size) (hn:ys.length+t.length<=100000000000) :
  ∃ A w',(Builtin.append_ #[27,27] 27 #[v,tv]).run prog w=.ok A w'/\Bw B w' A (ys++t)/\w.grownBy w' v.ownBlock/\(A.ownBlock=v.ownBlock\/A.ownBlock=some w.heap.size):=by
 rcases h with h | ⟨g,rfl,h1,h2,h3,h4⟩
 ·obtain ⟨A,w',X,ho,hg,hb⟩:=uR B w.heap.size w v tv ys t h L hB hn;exact ⟨A,w',X,.inl ho,hg,hb⟩
 ·obtain ⟨i0,S,N,H,a4⟩:=info_parts lL;obtain ⟨a,cap,M,X⟩:=L;subst M;have O:=underlying27
  by_cases Z:t=[]
  ·subst Z;refine ⟨_,w,?_,by rw [List.append_nil];exact .inr ⟨g,rfl,h1,h2,h3,h4⟩,World.grownBy.refl _ _,.inl rfl⟩;cases a with
   | none=>simp [Builtin.append_,run_underlying O,sizeOf,typeInfo,S,Builtin.lenOf,Builtin.firstCells,storeCells]
   | some ad=>simp [Builtin.append_,run_underlying O,sizeOf,typeInfo,S,Builtin.lenOf,Builtin.firstCells,loadCells,loadCellsFrom,storeCells]
  ·obtain ⟨b,off,rfl,hb,hc⟩:=X Z;have b3:0<t.length:=List.length_pos_iff.2 Z
   have G:∀ j u,(ys.map (Value.int .u8))[j]?=some u->w.cell? ((⟨g,0,none⟩:Addr).add j)=some u:=by
    intro j u E;have y:j<ys.length:=(by have:=(List.getElem?_eq_some_iff.1 E).1;simpa using this);rw [Addr.add_lit,Nat.zero_add,h4 j y];simpa [y] using E
   have J:∀ j u,(t.map (Value.int .u8))[j]?=some u->w.cell? ((⟨b,off,none⟩:Addr).add j)=some u:=by
    intro j u E;have y:j<t.length:=(by have:=(List.getElem?_eq_some_iff.1 E).1;simpa using this);rw [Addr.add_lit,hc j y];simpa [y] using E
   have D:=run_append_grow (P:=prog) w 27 27 5 i0 (.int .u8 0) O S N ⟨g,0,none⟩ ys.length ys.length (ys.map (Value.int .u8)) (by rw [H];simp) G ⟨b,off,none⟩ t.length cap (t.map (Value.int .u8)) (by rw [H];simp) J (by omega) (by omega) (growslice_fits (by omega) (by rw [a4];omega));refine ⟨_,_,D,.inl ?_,?_,.inr rfl⟩
   ·have U:=grownCap_ge w (ys.length+t.length) ys.length 5;have Y:=grownCap_le_maxLen w (ys.length+t.length) ys.length 5 (by unfold maxLen;omega);refine ⟨by simp,.inr ⟨w.heap.size,_,_,by rw [List.length_append],hB,heap_alloc_new w.drew _,by simpa using U,Y,?_,?_⟩⟩
    ·simp only [Array.size_append,List.size_toArray,size_zeroCells,List.length_map,Value.cells];simp;omega
    ·simp only [Array.toList_append,List.append_assoc];rw [<- List.append_assoc,<- List.map_append];exact List.take_left' (by simp)
   ·have gd:w.grownBy w.drew (Value.slice (some ⟨g,0,none⟩) ys.length ys.length).ownBlock:=⟨rfl,rfl,rfl,Nat.le_refl _,fun _ _ _=>rfl⟩;exact aA gd gWA
theorem mY (B:Nat) (w:World) (v:Value) (ys y:List Int) (A:Bw B w v ys) (U:Bys y) (b1:0<y.length) (hB:B<=w.heap.size) (hn:ys.length+y.length<=100000000000) :
  ∃ N w',(Builtin.append_ #[27,9] 27 #[v,.string (strOfNums y)]).run prog w=.ok N w'/\Bw B w' N (ys++y)/\w.grownBy w' v.ownBlock:=by
 have G:Lib.strCells (strOfNums y)=y.map (Value.int .u8):=by
  unfold Lib.strCells;rw [strOfNums_data,List.map_map];refine List.map_congr_left fun z hz=>?_;have:=U z hz;simp only [Function.comp,Value.int.injEq,true_and,UInt8.toNat_ofNat'];omega
 have h:=strOfNums_size y;obtain ⟨i0,Z,E,L,M⟩:=info_parts lL;have Y:=underlying27;have hu:=underlying9;rcases A with A | ⟨g,rfl,h1,h2,h3,h4⟩
 ·obtain ⟨N,w',hr,ho,hg,_⟩:=Lib.run_append_own_string (P:=prog) w B 27 9 27 5 i0 Y hu Z E L M v ys.length _ A (strOfNums y) (by rw [h];unfold maxLen;omega) (by rw [h];omega) hB;exact ⟨N,w',hr,.inl (by unfold OwB Ow;rw [G,h] at ho;simpa using ho),hg⟩
 ·have H:∀ j u,(ys.map (Value.int .u8))[j]?=some u->w.cell? ((⟨g,0,none⟩:Addr).add j)=some u:=by
   intro j u X;have J:j<ys.length:=(by have:=(List.getElem?_eq_some_iff.1 X).1;simpa using this);rw [Addr.add_lit,Nat.zero_add,h4 j J];simpa [J] using X
  have D:=Lib.run_append_grow_string (P:=prog) w 27 9 27 5 i0 (.int .u8 0) Y hu Z E ⟨g,0,none⟩ ys.length ys.length (ys.map (Value.int .u8)) (by rw [L];simp) H (strOfNums y) (by rw [h];omega) (by rw [h];omega) (growslice_fits (by rw [h];omega) (by rw [M,h];omega));rw [G,h] at D;refine ⟨_,_,D,.inl ?_,?_⟩
  ·have O:=grownCap_ge w (ys.length+y.length) ys.length 5;have S:=grownCap_le_maxLen w (ys.length+y.length) ys.length 5 (by unfold maxLen;omega);refine ⟨by simp,.inr ⟨w.heap.size,_,_,by rw [List.length_append],hB,heap_alloc_new w.drew _,by simpa using O,S,?_,?_⟩⟩
   ·simp only [Array.size_append,List.size_toArray,size_zeroCells,List.length_map,Value.cells];simp;omega
   ·simp only [Array.toList_append,List.append_assoc];rw [<- List.append_assoc,<- List.map_append];exact List.take_left' (by simp)
  ·have gd:w.grownBy w.drew (Value.slice (some ⟨g,0,none⟩) ys.length ys.length).ownBlock:=⟨rfl,rfl,rfl,Nat.le_refl _,fun _ _ _=>rfl⟩;exact aA gd gWA
theorem uO (w:World) (x y:Int):Bw w.heap.size (w.alloc (Obj.cells #[.int .u8 x,.int .u8 y] 5 (2,3))) (.slice (some ⟨w.heap.size,0,none⟩) 2 2) [x,y]:=by
 refine .inr ⟨w.heap.size,rfl,Nat.le_refl _,by simp,by simp,fun j h=>?_⟩;have:=World.cell?_alloc_mark w #[.int .u8 x,.int .u8 y] 5 (2,3) j;rw [this]
 match j,h with
 | 0,_=>rfl
 | 1,_=>rfl
end Go.Proofs.YtgifkcpdihphlaaGreatDoor
namespace Go.Proofs.YtgifkcpdihphlaaGreatDoor
open Tryz
open Go.RowKit
attribute [-go_sem] Builtin.append_
theorem aEI (x:List Int):∀ (L:List (List Int)),sX (L++[x])=(L.flatMap fun l=>[aG l,aI 5])++[aG x]
 | []=>rfl
 | [l]=>rfl
 | l::m::L=>by
   have:=aEI x (m::L);simp only [List.cons_append] at this ⊢;simp only [sX,this];simp
theorem zX (t:List Int) (tv:Value) (w:World) (hv:RdB w.heap.size w tv t) (hs:Sl tv t.length) (hn:t.length<=1048576) :
  Calls prog 64 #[.agg #[.bool false,tv]] w fun e w'=>∃ U,e=.returned U/\PoR w.heap.size w' U (aG (47::47::t))/\w.grownBy w' none:=by
 obtain ⟨a,cap,H,a8,b0⟩:=hs;subst H;obtain ⟨W,D⟩:∃ W,W=w.alloc (Obj.cells #[.bool false,.slice a t.length cap] 81):=⟨_,rfl⟩;have G:w.grownBy W none:=(by rw [D];exact gWA);have sW:W.heap.size=w.heap.size+1:=(by rw [D];simp);have X:=Lib.run_convert_bytes_const (P:=prog) W 27 5 #[.int .u8 47,.int .u8 47] 2 2 underlying27 underlying5;obtain ⟨A,y⟩:∃ A,A=W.alloc (Obj.cells #[.int .u8 47,.int .u8 47] 5 (2,3)):=⟨_,rfl⟩;have h:W.grownBy A none:=(by rw [y];exact gWA);have E:Bw W.heap.size A (.slice (some ⟨W.heap.size,0,none⟩) 2 2) [47,47]:=(by rw [y];exact uO W 47 47);obtain ⟨v3,S,u,J,Z,_⟩:=nD W.heap.size A _ (.slice a t.length cap) [47,47] t E (((hv.K G).K h).wideC (Nat.le_trans G.size h.size)) h.size (by simp;omega);have Y:=aB (jL v3 _ S J.rd (by simp;omega));have O:Hid (w.grownBy S none):=aA G (aU h Z (fun j e=>by cases e;exact Nat.le_refl _));obtain ⟨a3,c3,L,_,_⟩:=J.sl;rw [sW] at X u;subst L;have c1:W.cell? ⟨w.heap.size,0,none⟩=some (.bool false):=(by rw [D];simp [go_sem]);have c2:A.cell? ⟨w.heap.size,1,none⟩=some (.slice a t.length cap):=h.cell (by rw [D];simp [go_sem]) (by simp);subst y D;clear E J G h hv
 go_enter func64,ntmps64
 go_wp2_with fail
 refine Y.out.mono ?_;rintro e w4 ⟨v4,rfl,M,g4⟩;have HO:=aB (M.base O.out.size);obtain ⟨a4,c4,N,_,_⟩:=M.sl;subst N;clear M Y u X;go_wp2;go_ret;exact ⟨_,rfl,HO.out,aA O.out g4⟩
def txr (L:List (List Int)):List (List Pc):=L.flatMap fun l=>[aG l,aI 5]
theorem aJD (L:List (List Int)) (x:List Int):txr (L++[x])=txr L++[aG x]++[aI 5]:=by simp [txr]
theorem aIL (L:List (List Int)):bO (txr L)<=4*oR L:=by
 induction L with
 | nil=>simp [txr,bO]
 | cons l L ih=>rw [show txr (l::L)=[aG l,aI 5]++txr L by simp [txr],cP];simp only [bO,aG,aI,mes,oR,List.length_nil];omega
theorem aIT (a b:List (List Int)):oR (a++b)=oR a+oR b:=by
 induction a with
 | nil=>simp [oR]
 | cons l a ih=>simp only [List.cons_append,oR,ih];omega
theorem DoR.lt {B:Nat} {w:World} {v:Value} {j:List (List Pc)} (h:DoR B w v j):∀ k,v.ownBlock=some k->B<=k/\k<w.heap.size:=by
 obtain ⟨xs,u,_⟩:=h;exact fun k e=>World.ownsRow.lt u k e
theorem DoR.sl {B:Nat} {w:World} {v:Value} {j:List (List Pc)} (h:DoR B w v j):Sl v j.length:=by
 obtain ⟨a,cap,e,y,u,_⟩:=h.di;exact ⟨a,cap,e,y,u⟩
theorem DoR.push {B:Nat} {w y:World} {v u:Value} {j:List (List Pc)} {E:List Pc} (hv:DoR B w v j) (g:w.grownBy y none) (U:PoR w.heap.size y u E) (M:B<=w.heap.size) (Y:j.length<=1000000000) :
  ∃ A w',(Builtin.append_ #[75,75] 75 #[v,.slice (some ⟨y.heap.size,0,none⟩) 1 1]).run prog (y.alloc (Obj.cells #[u] 44))=.ok A w'/\DoR B w' A (j++[E])/\w.grownBy w' v.ownBlock/\y.grownBy w' v.ownBlock/\(∃ a cap,A=.slice a (j.length+1) cap)/\∀ x,A.ownBlock=some x->v.ownBlock=some x\/w.heap.size<=x:=by
 have H:=World.grownBy_alloc y (Obj.cells #[u] 44) none;have D:=World.grownBy_alloc y (Obj.cells #[u] 44) v.ownBlock;have Z:=g.size
 obtain ⟨A,w',S,L,J,O⟩:=aFh B (y.alloc (Obj.cells #[u] 44)) v u y.heap.size j E ((hv.K g).K H) (by simp [go_sem])
  (((U.pi.turn (Zo.on v.ownBlock M (fun k e=>.inl (hv.lt k e).2)))).K H) (by simp;omega) (by omega)
 have X:w.grownBy y v.ownBlock:=⟨g.os,g.tape,g.output,g.size,fun k N _=>g.block k N (by simp)⟩;refine ⟨A,w',S,L,aA (aA X D) J,aA D J,?_,fun x G=>?_⟩
 ·obtain ⟨a,cap,e,_⟩:=L.sl;exact ⟨a,cap,by simpa using e⟩
 ·rcases O with h | h
  ·exact .inl (by rw [<- h];exact G)
  ·rw [h] at G;cases G;right;simp;omega
theorem aIu (B:Nat) (w:World) (v:Value) (ys:List Int) (z:Int) (u:Bw B w v ys) (J:B<=w.heap.size) (L:ys.length<=10000000000) :
  ∃ h w',(Builtin.append_ #[27,27] 27 #[v,.slice (some ⟨w.heap.size,0,none⟩) 1 1]).run prog (w.alloc (Obj.cells #[.int .u8 z] 5))=.ok h w'/\Bw B w' h (ys++[z])/\w.grownBy w' v.ownBlock/\∃ a cap,h=.slice a (ys.length+1) cap:=by
 have D:=World.grownBy_alloc w (Obj.cells #[.int .u8 z] 5) none;have y:=World.grownBy_alloc w (Obj.cells #[.int .u8 z] 5) v.ownBlock
 obtain ⟨h,w',G,A,E,M⟩:=nD B (w.alloc (Obj.cells #[.int .u8 z] 5)) v (.slice (some ⟨w.heap.size,0,none⟩) 1 1) ys [z] (u.K D)
  ⟨_,1,rfl,fun _=>⟨w.heap.size,0,rfl,by simp,fun j H=>by
   have:j=0:=by simp at H;omega
   subst this;simp [go_sem]⟩⟩ (by simp;omega) (by simp;omega)
 obtain ⟨a,cap,e,_⟩:=A.sl;exact ⟨h,w',G,A,aA y E,a,cap,by simpa using e⟩
theorem yI (t:List Int) (tv:Value) (w:World) (hv:RdB w.heap.size w tv t) (hs:Sl tv t.length) (hn:t.length<=1000000) :
  Calls prog 64 #[.agg #[.bool true,tv]] w fun e w'=>∃ v',e=.returned v'/\PoR w.heap.size w' v' (cT (sX (spl [] (47::42::t++[42,47]))))/\w.grownBy w' none:=by
 obtain ⟨a,cap,f4,m0,m1⟩:=hs;subst f4;obtain ⟨W,hW⟩:∃ W,W=w.alloc (Obj.cells #[.bool true,.slice a t.length cap] 81):=⟨_,rfl⟩;have gW:w.grownBy W none:=(by rw [hW];exact gWA);have sW:W.heap.size=w.heap.size+1:=(by rw [hW];simp);have kc:=Lib.run_convert_bytes_const (P:=prog) W 27 5 #[.int .u8 47,.int .u8 42] 2 2 underlying27 underlying5;obtain ⟨W2,N⟩:∃ W2,W2=W.alloc (Obj.cells #[.int .u8 47,.int .u8 42] 5 (2,3)):=⟨_,rfl⟩;have d0:W.grownBy W2 none:=(by rw [N];exact gWA);have c7:Bw W.heap.size W2 (.slice (some ⟨W.heap.size,0,none⟩) 2 2) [47,42]:=(by rw [N];exact uO W 47 42);have b5:W.cell? ⟨w.heap.size,1,none⟩=some (.slice a t.length cap):=(by rw [hW];simp [go_sem]);have h6:Hid (Bw W.heap.size W2 (.slice (some ⟨w.heap.size+1,0,none⟩) 2 2) [47,42]):=(by unfold Hid;rw [<- sW];exact c7);rw [sW] at kc;have GW:=aB gW;have f9:=aB d0;have HV:=aB hv;have f6:=aB b5;have i0:(convert 27 27 (.slice (some ⟨w.heap.size+1,0,none⟩) 2 2)).run prog (W.alloc (Obj.cells #[.int .u8 47,.int .u8 42] 5))=.ok (.slice (some ⟨w.heap.size+1,0,none⟩) 2 2) W2:=(by rw [N];exact kc);rw [hW] at i0;clear kc c7 b5 hv gW d0 N
 go_enter func64,ntmps64
 go_wp2
 go_loopw [3,4,5] (fun rv pv i U=>∃ (k:Nat) (W0:World) (L:List (List Int)) (h:List Int),k<=t.length/\i=.int .i64 k/\W.grownBy W0 none/\W0.grownBy U none/\DoR W.heap.size W0 rv (txr L)/\Bw W0.heap.size U pv h/\spl [47,42] (t++[42,47])=L++spl h (t.drop k++[42,47]))
  (fun _ _ i _=>t.length - (intOf i).toNat)
 case atStart=>exact ⟨0,W,[],[47,42],Nat.zero_le _,rfl,World.grownBy.refl _ _,f9.out,DoR.nil _ _,h6.out,by simp⟩
 case round=>
  obtain ⟨k,W0,L,h,hk,rfl,g0,gU,ho,hb,y⟩:=hrel;have O:=aA g0 gU;have k7:=O.cell f6.out (by simp);have A:=aB y;have HO:=aB ho;have HB:=aB hb;have G0:=aB g0;have GU:=aB gU
  have l2:oR L+h.length+(t.length - k)<=t.length+10:=by
   have h1:=congrArg oR y;rw [rP,aIT,rP] at h1;simp only [List.length_append,List.length_cons,List.length_nil,List.length_drop] at h1;omega
  have l3:=aIL L;have j9:=cU (txr L);obtain ⟨ra,rc,h7,_,_⟩:=ho.sl;obtain ⟨pa,pc,j2,_,_⟩:=hb.sl;subst h7 j2;clear y ho hb g0 gU
  by_cases G:k<t.length
  ·have d1:t.drop k=(t[k]?.getD 0)::t.drop (k+1):=(by rw [List.drop_eq_getElem_cons G];simp [G]);obtain ⟨a',j8,e,hr⟩:=(HV.out.K GW.out).K O;simp only [Value.slice.injEq,true_and] at e;obtain ⟨rfl,rfl⟩:=e;obtain ⟨b,off,rfl,n0,hc⟩:=hr (fun e=>by rw [e] at G;simp at G);have m9:=hc k G;have S:=aB d1;clear hr hc d1;generalize t[k]?.getD 0=p at *
   by_cases hp:p=10
   ·subst hp;have c0:DoR W.heap.size wr (.slice ra (txr L).length rc) (txr L):=HO.out.K GU.out;have h0:=O.size;have HC:=aB (jL (.slice pa h.length pc) h wr HB.out.rd (by omega));have HW:=aB c0;clear c0
    go_wp2_with fail
    refine HC.out.mono ?_;rintro e w1 ⟨v1,rfl,o1,g1⟩;obtain ⟨v2,w2,D,H,g2,j0,⟨a2,c2,u⟩,h2⟩:=HW.out.push g1 o1 (by omega) (by omega);obtain ⟨a1,c1,f5,_,_⟩:=o1.sl;have E:W.grownBy w2 none:=aU O g2 (fun j e=>(HO.out.lt j e).1);have k5:=E.size;have J:=aB H;have HX:=aB (dL 5 w2);have Z:∀ x,v2.ownBlock=some x->W.heap.size<=x:=fun x e=>(H.lt x e).1;have h8:=aB Z;have b3:=aB E;subst f5 u;clear HC o1 H g1 g2 j0 h2 Z E
    go_wp2_with fail
    refine HX.out.mono ?_;rintro e w3 ⟨v3,rfl,o3,g3⟩;obtain ⟨v4,w4,d3,o4,g4,_,⟨a4,c4,M⟩,_⟩:=J.out.push g3 o3 (by omega) (by simp;omega);obtain ⟨a3,c3,a9,_,_⟩:=o3.sl;have i3:=aB (aU b3.out g4 h8.out);have g8:Hid (DoR W.heap.size w4 v4 (txr (L++[h]))):=by unfold Hid;rw [aJD];exact o4
    have h9:Hid (spl [47,42] (t++[42,47])=(L++[h])++spl [] (t.drop (k+1)++[42,47])):=by
     unfold Hid;rw [A.out,S.out,List.cons_append,spl,if_pos rfl];simp
    have i7:(txr L++[aG h]).length+1=(txr L).length+1+1:=(by simp);rw [i7] at M;subst a9 M;clear HX o3 o4 g3 g4 J A S HW;go_wp2
    go_roundw
    case rel=>exact ⟨k+1,w4,L++[h],[],by omega,by go_num,i3.out,World.grownBy.refl _ _,g8.out,Bw.nil _ _,h9.out⟩
    case measure=>simp [intOf];omega
   ·obtain ⟨v2,w2,D,H,g2,a2,c2,u⟩:=aIu W0.heap.size wr (.slice pa h.length pc) h p HB.out GU.out.size (by omega);have f8:=aB (aU GU.out g2 (fun j e=>(HB.out.lt j e).1));have J:=aB H
    have i5:Hid (spl [47,42] (t++[42,47])=L++spl (h++[p]) (t.drop (k+1)++[42,47])):=by
     unfold Hid;rw [A.out,S.out,List.cons_append,spl,if_neg hp]
    subst u;clear H g2 A S;go_wp2
    go_roundw
    case rel=>exact ⟨k+1,W0,L,h++[p],by omega,by go_num,G0.out,f8.out,HO.out,J.out,i5.out⟩
    case measure=>simp [intOf];omega
  ·have b9:t.drop k=[]:=List.drop_of_length_le (by omega)
   have y:spl [] (47::42::t++[42,47])=L++[h++[42,47]]:=by
    have h1:=A.out;rw [b9] at h1;rw [show (47::42::t++[42,47]:List Int)=47::42::(t++[42,47]) by simp,spl,if_neg (by omega),spl,if_neg (by omega)];simpa [spl] using h1
   have g9:=aB (show sX (spl [] (47::42::t++[42,47]))=txr L++[aG (h++[42,47])] by rw [y,aEI];rfl);obtain ⟨v2,w2,D,H,g2⟩:=mY W0.heap.size wr (.slice pa h.length pc) h [42,47] HB.out (by intro z hz;simp at hz;omega) (by simp) GU.out.size (by simp;omega);rw [show strOfNums [42,47] = { data:=#[42,47] } by rfl] at D;have b4:=aU GU.out g2 (fun j e=>(HB.out.lt j e).1);have HC:=aB (jL v2 _ w2 H.rd (by simp;omega));have HW:=aB (HO.out.K b4);have X:=aB (aA G0.out b4);have h0:=X.out.size;obtain ⟨a2,c2,u,_,_⟩:=H.sl;have b2:(h++([42,47]:List Int)).length=h.length+2:=(by simp);rw [b2] at u;clear b2;subst u;clear H g2 y b9
   go_wp2_with fail
   refine HC.out.mono ?_;rintro e w3 ⟨v3,rfl,o3,g3⟩;obtain ⟨v4,w4,d3,o4,g4,_,⟨a4,c4,M⟩,_⟩:=HW.out.push g3 o3 (by omega) (by omega);obtain ⟨a3,c3,a9,_,_⟩:=o3.sl;have a8:=aU X.out g4 (fun j e=>(HO.out.lt j e).1);have c9:=a8.size;have g7:w.heap.size<=W.heap.size:=GW.out.size;have HR:=aB (gK v4 _ W.heap.size w4 o4.di c9 (by rw [cP];simp only [bO,aG,mes,List.length_append,List.length_cons,List.length_nil];omega));have i9:=aB (aA GW.out a8);subst a9 M;clear HC o3 o4 g3 g4 HW a8
   go_wp2_with fail
   refine HR.out.mono ?_;rintro e w5 ⟨v5,rfl,o5,g5⟩;obtain ⟨a5,c5,j4,_,_⟩:=o5.sl;have i6:=aB (o5.base g7);have i4:=aB (aA i9.out g5);generalize (cT (txr L++[aG (h++[42,47])])).length=L5 at *;subst j4;clear o5 g5 HR;go_wp2;go_ret;refine ⟨_,rfl,?_,i4.out⟩;have Y:=i6.out;rw [<- g9.out] at Y;exact Y
theorem tA (c:Cm) (tv:Value) (w:World) (hv:RdB w.heap.size w tv c.t) (h:Sl tv c.t.length) (j:c.t.length<=1000000) :
  Calls prog 64 #[.agg #[.bool c.b,tv]] w fun e w'=>∃ u,e=.returned u/\PoR w.heap.size w' u (jP c)/\w.grownBy w' none:=by
 obtain ⟨b,t⟩:=c;cases b with
 | false=>exact zX t tv w hv h (Nat.le_trans j (by omega))
 | true=>exact yI t tv w hv h j
theorem aDz (j:List Cm):∀ c∈j,4*c.t.length+30<=wC j:=by
 induction j with
 | nil=>simp
 | cons d j ih=>
   intro c u;simp only [wC];rcases List.mem_cons.1 u with rfl | h
   ·omega
   ·have:=ih c h;omega
theorem aCS (h:List Cm):30*h.length<=wC h:=by
 induction h with
 | nil=>simp
 | cons d h ih=>simp only [wC,List.length_cons];omega
theorem sC (j:List Cm) (k:Nat):bO (bI (j.take k))<=wC j/\bO (cW (j.take k))<=wC j:=by
 have h:wC (j.take k)<=wC j:=by
  have u:∀ (a b:List Cm),wC (a++b)=wC a+wC b:=by
   intro a b
   induction a with
   | nil=>simp [wC]
   | cons c a ih=>simp only [List.cons_append,wC,ih];omega
  have y:=u (j.take k) (j.drop k);rw [List.take_append_drop] at y;omega
 exact ⟨Nat.le_trans (gY _) h,Nat.le_trans (lD _) h⟩
theorem gG {q:IntKind} {B:Nat} {w w':World} {v:Value} {zs:List Int} (h:Rd q B w v zs) (g:Below B w w') (H:B<=w.heap.size):Rd q w'.heap.size w' v zs:=by
 obtain ⟨a,cap,e,y⟩:=h;refine ⟨a,cap,e,fun E=>?_⟩;obtain ⟨b,off,D,A,u⟩:=y E;have:=g.size;exact ⟨b,off,D,by omega,fun j G=>by rw [g.cell (by simpa using A)];exact u j G⟩
theorem bS {B:Nat} {w w':World} {v:Value} {J:List Cm} (h:RdC B w v J) (g:Below B w w'):RdC B w' v J:=by
 obtain ⟨a,cap,hv,h1,h2,Y⟩:=h;refine ⟨a,cap,hv,h1,h2,fun h0=>?_⟩;obtain ⟨b,off,N,G,hc⟩:=Y h0;refine ⟨b,off,N,G,fun j p hp=>?_⟩;obtain ⟨tv,U,Z,⟨a2,y,O,E⟩,X⟩:=hc j p hp;refine ⟨tv,by rw [g.cell (by simpa using G)];exact U,by rw [g.cell (by simpa using G)];exact Z,⟨a2,y,O,fun M=>?_⟩,X⟩;obtain ⟨L,A,D,u,H⟩:=E M;exact ⟨L,A,D,u,fun j S=>by rw [g.cell (by simpa using u)];exact H j S⟩
theorem iI (rv cv:Value) (u:List (List Pc)) (h:List Cm) (B:Nat) (w:World) (D:DoR B w rv u) (hB:B<=w.heap.size) (hc:RdC B w cv h) (hn:wC h<=4000000) (hd:u.length<=100000000) :
  Calls prog 35 #[rv,cv] w fun e w'=>∃ v',e=.returned v'/\DoR B w' v' (u++bI h)/\Below B w w':=by
 have a7:=aB hc;have g8:=aCS h;obtain ⟨a,cap,c5,_,_,_⟩:=id hc;obtain ⟨h3,g6,A,_,_⟩:=D.sl;have b9:=aB D;subst c5 A;clear hc D
 go_enter func35,ntmps35
 go_wp2
 go_loopw [0,5] (fun r i W=>∃ (k:Nat),k<=h.length/\i=.int .i64 k/\DoR B W r (u++bI (h.take k))/\Below B w W)
  (fun _ i _=>h.length - (intOf i).toNat)
 case atStart=>exact ⟨0,Nat.zero_le _,rfl,by simpa [bI] using b9.out,Below.refl _ _⟩
 case round=>
  obtain ⟨k,hk,rfl,D,y⟩:=hrel;have h4:=y.size
  have G:RdC B wr (.slice a h.length cap) h:=by
   have hg:wr.heap.size=wr.heap.size:=rfl;exact bS a7.out y
  obtain ⟨ra,rc,A,_,_⟩:=D.sl
  by_cases H:k<h.length
  ·obtain ⟨b,off,c9,tv,b0,h8,c0,c1,O,U⟩:=G.at k H;cases b0;have hm:=aDz h h[k] (List.getElem_mem H);have g0:=(sC h k).1;have f4:(u++bI (h.take k)).length<=200000000:=(by have:=cU (bI (h.take k));rw [List.length_append];omega);have HC:Hid (∀ W:World,Below B wr W->_):=fun W (g:Below B wr W)=>tA h[k] tv W (gG O g (by omega)) U (by omega);have HL:Hid (∀ W:World,_):=fun W=>dL 4 W;obtain ⟨ta,tc,a5,_,_⟩:=U
   have HE:Hid (u++bI (h.take (k+1))=(u++bI (h.take k))++[jP h[k]]++[aI 4]):=by
    unfold Hid;rw [show h.take (k+1)=h.take k++[h[k]] by rw [List.take_add_one];simp [H],aB3];simp
   have X:=aB D;have J:=aB y;generalize E:(u++bI (h.take k)).length=LL at *;subst a5 A;clear O D G y;have a8:∀ x,(Value.slice ra LL rc).ownBlock=some x->B<=x:=fun x e=>(X.out.lt x e).1;generalize h[k]=c at *
   go_wp2_with fail
   refine (HC.out _ (Below.refl _ _)).mono ?_;rintro e w1 ⟨v1,rfl,o1,g1⟩;obtain ⟨v2,Y,c8,Z,g2,b8,⟨a2,c2,N⟩,h2⟩:=X.out.push g1 o1 (by omega) (by omega);obtain ⟨a1,h6,a6,_,_⟩:=o1.sl;have j:Below B wr Y:=(Below.refl B wr).grown g2 (by omega) a8;have d1:=j.size;have b5:Y.cell? ⟨b,off+k*2,none⟩=some (.bool c.b):=(by rw [j.cell (by simp;omega)];exact c0);have S:Y.cell? ⟨b,off+k*2+1,none⟩=some (.slice ta c.t.length tc):=(by rw [j.cell (by simp;omega)];exact c1);have b1:=aB j;have L:=aB Z;rw [E] at N;have b2:Hid (∀ x,v2.ownBlock=some x->B<=x):=fun x e=>(Z.lt x e).1;subst a6 N;clear o1 Z g1 g2 b8 h2 j
   go_wp2_with fail
   refine (HL.out _).mono ?_;rintro e w3 ⟨v3,rfl,o3,g3⟩;obtain ⟨v4,w4,f5,o4,g4,_,⟨a4,c4,M⟩,_⟩:=L.out.push g3 o3 (by omega) (by rw [List.length_append,E];simp;omega);obtain ⟨a3,c3,b6,_,_⟩:=o3.sl;rw [List.length_append,E,List.length_singleton] at M;have b7:=aB (J.out.trans (b1.out.trans ((Below.refl B Y).grown g4 (by omega) b2.out)));have a9:Hid (DoR B w4 v4 (u++bI (h.take (k+1)))):=(by unfold Hid;rw [HE.out];exact o4);subst b6 M;clear o3 o4 g3 g4 HE L X HC HL E c0 c1 b5 S;go_wp2
   go_roundw
   case rel=>exact ⟨k+1,by omega,by go_num,a9.out,b7.out⟩
   case measure=>simp [intOf];omega
  ·have b3:k=h.length:=(by omega);subst b3;rw [List.take_length] at D A;have X:=aB D;subst A;clear D G;generalize (u++bI h).length=LL at *;go_wp2;go_ret;exact ⟨_,rfl,X.out,y⟩
theorem nR (rv cv:Value) (u:List (List Pc)) (h:List Cm) (B:Nat) (w:World) (D:DoR B w rv u) (hB:B<=w.heap.size) (hc:RdC B w cv h) (hn:wC h<=4000000) (hd:u.length<=100000000) :
  Calls prog 68 #[rv,cv] w fun e w'=>∃ v',e=.returned v'/\DoR B w' v' (u++cW h)/\Below B w w':=by
 have a8:=aB hc;have g8:=aCS h;obtain ⟨a,cap,c5,_,_,_⟩:=id hc;obtain ⟨h3,g6,A,_,_⟩:=D.sl;have b9:=aB D;subst c5 A;clear hc D
 go_enter func68,ntmps68
 go_wp2
 go_loopw [0,5] (fun r i W=>∃ (k:Nat),k<=h.length/\i=.int .i64 k/\DoR B W r (u++cW (h.take k))/\Below B w W)
  (fun _ i _=>h.length - (intOf i).toNat)
 case atStart=>exact ⟨0,Nat.zero_le _,rfl,by simpa [cW] using b9.out,Below.refl _ _⟩
 case round=>
  obtain ⟨k,hk,rfl,D,y⟩:=hrel;have h4:=y.size
  have G:RdC B wr (.slice a h.length cap) h:=by
   have hg:wr.heap.size=wr.heap.size:=rfl;exact bS a8.out y
  obtain ⟨ra,rc,A,_,_⟩:=D.sl
  by_cases H:k<h.length
  ·obtain ⟨b,off,c9,tv,b1,h8,c0,c1,S,X⟩:=G.at k H;cases b1;have hm:=aDz h h[k] (List.getElem_mem H);have g0:=(sC h k).2;have f4:(u++cW (h.take k)).length<=200000000:=(by have:=cU (cW (h.take k));rw [List.length_append];omega);have HC:Hid (∀ W:World,Below B wr W->_):=fun W (g:Below B wr W)=>tA h[k] tv W (gG S g (by omega)) X (by omega);have HL:Hid (∀ W:World,_):=fun W=>dL 4 W;obtain ⟨ta,tc,a6,_,_⟩:=X
   have HE:Hid (u++cW (h.take (k+1))=(u++cW (h.take k))++[aI 4]++[jP h[k]]):=by
    unfold Hid;rw [show h.take (k+1)=h.take k++[h[k]] by rw [List.take_add_one];simp [H],aBS];simp
   have Y:=aB D;have J:=aB y;generalize E:(u++cW (h.take k)).length=LL at *;subst a6 A;clear S D G y;have a9:∀ x,(Value.slice ra LL rc).ownBlock=some x->B<=x:=fun x e=>(Y.out.lt x e).1;generalize h[k]=c at *
   go_wp2_with fail
   refine (HL.out _).mono ?_;rintro e w1 ⟨v1,rfl,o1,g1⟩;obtain ⟨v2,Z,c8,o2,g2,b8,⟨a2,c2,O⟩,h2⟩:=Y.out.push g1 o1 (by omega) (by omega);obtain ⟨a1,h6,a7,_,_⟩:=o1.sl;have j:Below B wr Z:=(Below.refl B wr).grown g2 (by omega) a9;have d1:=j.size;have b5:Z.cell? ⟨b,off+k*2,none⟩=some (.bool c.b):=(by rw [j.cell (by simp;omega)];exact c0);have U:Z.cell? ⟨b,off+k*2+1,none⟩=some (.slice ta c.t.length tc):=(by rw [j.cell (by simp;omega)];exact c1);have M:=aB j;have L:=aB o2;rw [E] at O;have b2:Hid (∀ x,v2.ownBlock=some x->B<=x):=fun x e=>(o2.lt x e).1;subst a7 O;clear o1 o2 g1 g2 b8 h2 j
   go_wp2_with fail
   refine (HC.out _ M.out).mono ?_;rintro e w3 ⟨v3,rfl,o3,g3⟩;obtain ⟨v4,w4,f5,o4,g4,_,⟨a4,c4,N⟩,_⟩:=L.out.push g3 o3 (by omega) (by rw [List.length_append,E];simp;omega);obtain ⟨a3,c3,b6,_,_⟩:=o3.sl;rw [List.length_append,E,List.length_singleton] at N;have b7:=aB (J.out.trans (M.out.trans ((Below.refl B Z).grown g4 (by omega) b2.out)));have b0:Hid (DoR B w4 v4 (u++cW (h.take (k+1)))):=(by unfold Hid;rw [HE.out];exact o4);subst b6 N;clear o3 o4 g3 g4 HE L Y HC HL E c0 c1 b5 U;go_wp2
   go_roundw
   case rel=>exact ⟨k+1,by omega,by go_num,b0.out,b7.out⟩
   case measure=>simp [intOf];omega
  ·have b3:k=h.length:=(by omega);subst b3;rw [List.take_length] at D A;have Y:=aB D;subst A;clear D G;generalize (u++cW h).length=LL at *;go_wp2;go_ret;exact ⟨_,rfl,Y.out,y⟩
end Go.Proofs.YtgifkcpdihphlaaGreatDoor
namespace Go.Proofs.YtgifkcpdihphlaaGreatDoor
open Tryz
open Go.RowKit
attribute [-go_sem] run_index_string
theorem iK {B:Nat} {j:World} {u:Value} {ys xs:List Int} (s:ByteArray) (A:Lib.strCells s=xs.map (Value.int .u8)) (n:Nat) (y:n=(ys++xs).length)
  (h:j.ownsRow B 5 1 u n (ys.map (Value.int .u8)++Lib.strCells s)):OwB B j u (ys++xs):=by
 subst y;unfold OwB Ow;rw [List.map_append,<- A];exact h
theorem cY {B:Nat} {w w':World} {v:Value} {zs:List Int} (u:B<=w.heap.size) (h:OwB B w v zs) (j:w.grownBy w' v.ownBlock):Below B w w':=
 ⟨j.os,j.tape,j.output,j.size,fun k y=>j.block k (by omega) (fun e=>by have:=(World.ownsRow.lt h k e.symm).1;omega)⟩
theorem jC (B:Nat) (v:Value) (ys:List Int) (p:Int) (w:World) (hB:B<=w.heap.size) (h:OwB B w v ys) (hn:ys.length<=8388608) (b2:0<=p) (b3:p<65536) :
  Calls prog 178 #[v,.int .i32 p] w fun e w'=>∃ X,e=.returned X/\OwB B w' X (ys++dN p)/\Below B w w':=by
 obtain ⟨Z,Y,H,J,O⟩:=info_parts lL;have L:=fun q=>aMW q;unfold aBm at L
 go_enter func178,ntmps178
 go_wp2_with (at_builtin;refine Lib.wpList_append_own_string _ rfl _ _ 27 9 rfl B 5 Z underlying27 underlying9 Y H J O _ _ _ rfl h { data:=#[92,117] } rfl (by unfold maxLen;simp [ByteArray.size];omega) (by simp [ByteArray.size];omega) hB ?_;intro v1 w1 N E _)
 have o1:OwB B w1 v1 (ys++[92,117]):=iK _ rfl _ (by simp [ByteArray.size]) N;have b1:=cY hB h E;clear N E h
 go_loopw [0,5] (fun v i wr=>∃ j:Nat,j<=4/\i=.int .i64 (12 - 4*(j:Int))/\OwB B wr v (ys++(dN p).take (2+j))/\Below B w wr)
  (fun _ i _=>(intOf i+4).toNat)
 case atStart=>exact ⟨0,by omega,rfl,o1,b1⟩
 case round=>
  obtain ⟨j,hj,rfl,h,G⟩:=hrel;clear o1 b1;have S:=Nat.le_trans hB G.size;have D:(ys++(dN p).take (2+j)).length=ys.length+(2+j):=by simp [dN];omega
  match j,hj with
  | 0,_=>
    have U:=fun W=>L (p / 4096) W;have ha:bits .and .i32 (p / 4096) 15=p / 4096%16:=aFK _ (by omega) (by omega)
    go_wp2_with (at_builtin;refine wpList_append_own _ rfl _ _ 27 rfl B 5 Z (.int .u8 0) 1 1 underlying27 Y H J O rfl (by decide) _ _ _ rfl (World.ownsRow.alloc h _) ⟨wr.heap.size,0,none⟩ 1 1 [.int .u8 (nG (p / 4096%16))] rfl rfl (cell_one_new _ _ _) (by intro u M;simp at M;subst M;rfl) (by rw [D];unfold maxLen;omega) (by rw [D];omega) (by simp;omega) ?_;intro X w2 A y _)
    have R:=cD (xs:=[nG (p / 4096%16)]) _ S h A (by simp;omega) y;clear A y h;go_wp2
    go_roundw
    case rel=>exact ⟨1,by omega,by go_num,by simpa [dN] using R.1,G.trans R.2⟩
    case measure=>simp [intOf]
  | 1,_=>
    have U:=fun W=>L (p / 256) W;have ha:bits .and .i32 (p / 256) 15=p / 256%16:=aFK _ (by omega) (by omega)
    go_wp2_with (at_builtin;refine wpList_append_own _ rfl _ _ 27 rfl B 5 Z (.int .u8 0) 1 1 underlying27 Y H J O rfl (by decide) _ _ _ rfl (World.ownsRow.alloc h _) ⟨wr.heap.size,0,none⟩ 1 1 [.int .u8 (nG (p / 256%16))] rfl rfl (cell_one_new _ _ _) (by intro u M;simp at M;subst M;rfl) (by rw [D];unfold maxLen;omega) (by rw [D];omega) (by simp;omega) ?_;intro X w2 A y _)
    have R:=cD (xs:=[nG (p / 256%16)]) _ S h A (by simp;omega) y;clear A y h;go_wp2
    go_roundw
    case rel=>exact ⟨2,by omega,by go_num,by simpa [dN] using R.1,G.trans R.2⟩
    case measure=>simp [intOf]
  | 2,_=>
    have U:=fun W=>L (p / 16) W;have ha:bits .and .i32 (p / 16) 15=p / 16%16:=aFK _ (by omega) (by omega)
    go_wp2_with (at_builtin;refine wpList_append_own _ rfl _ _ 27 rfl B 5 Z (.int .u8 0) 1 1 underlying27 Y H J O rfl (by decide) _ _ _ rfl (World.ownsRow.alloc h _) ⟨wr.heap.size,0,none⟩ 1 1 [.int .u8 (nG (p / 16%16))] rfl rfl (cell_one_new _ _ _) (by intro u M;simp at M;subst M;rfl) (by rw [D];unfold maxLen;omega) (by rw [D];omega) (by simp;omega) ?_;intro X w2 A y _)
    have R:=cD (xs:=[nG (p / 16%16)]) _ S h A (by simp;omega) y;clear A y h;go_wp2
    go_roundw
    case rel=>exact ⟨3,by omega,by go_num,by simpa [dN] using R.1,G.trans R.2⟩
    case measure=>simp [intOf]
  | 3,_=>
    have U:=fun W=>L (p) W;have ha:bits .and .i32 (p) 15=p%16:=aFK _ (by omega) (by omega)
    go_wp2_with (at_builtin;refine wpList_append_own _ rfl _ _ 27 rfl B 5 Z (.int .u8 0) 1 1 underlying27 Y H J O rfl (by decide) _ _ _ rfl (World.ownsRow.alloc h _) ⟨wr.heap.size,0,none⟩ 1 1 [.int .u8 (nG (p%16))] rfl rfl (cell_one_new _ _ _) (by intro u M;simp at M;subst M;rfl) (by rw [D];unfold maxLen;omega) (by rw [D];omega) (by simp;omega) ?_;intro X w2 A y _)
    have R:=cD (xs:=[nG (p%16)]) _ S h A (by simp;omega) y;clear A y h;go_wp2
    go_roundw
    case rel=>exact ⟨4,by omega,by go_num,by simpa [dN] using R.1,G.trans R.2⟩
    case measure=>simp [intOf]
  | 4,_=>
    go_wp2;go_ret;exact ⟨_,rfl,h,G⟩
end Go.Proofs.YtgifkcpdihphlaaGreatDoor
namespace Go.Proofs.YtgifkcpdihphlaaGreatDoor
open Tryz
open Go.RowKit
theorem aFI (p:Int) (h:0<=p) (j:p<=1114111):bits .or .u8 128 (bits .and .i32 p 63%256)=128+p%64:=by
 rw [aM5 p h (by omega),show p%64%256=p%64 by omega,aM1 _ (by omega) (by omega)]
theorem tV (p:Int) (w:World) (h:0<=p) (u:p<=1114111):Calls prog 191 #[.int .i32 p] w fun e w'=>e=.returned (.int .u8 (128+p%64))/\w=w':=by
 have j:Hid (bits .or .u8 128 (bits .and .i32 p 63%256)=128+p%64):=aFI p h u
 go_enter func191,ntmps191
 go_wp2;go_ret;exact ⟨by rw [<- j.out];rfl,rfl⟩
theorem wT (w:World) (x y:Value) (t:TypeId):∀ j u,[x,y][j]?=some u->(w.alloc (.cells #[x,y] t)).cell? ((⟨w.heap.size,0,none⟩:Addr).add j)=some u:=by
 intro j u h
 match j,h with
 | 0,h=>simp at h;subst h;simp [Addr.add]
 | 1,h=>simp at h;subst h;simp [Addr.add]
theorem aED (w:World) (x y z:Value) (t:TypeId):∀ j u,[x,y,z][j]?=some u->(w.alloc (.cells #[x,y,z] t)).cell? ((⟨w.heap.size,0,none⟩:Addr).add j)=some u:=by
 intro j u h
 match j,h with
 | 0,h=>simp at h;subst h;simp [Addr.add]
 | 1,h=>simp at h;subst h;simp [Addr.add]
 | 2,h=>simp at h;subst h;simp [Addr.add]
theorem aFF (w:World) (x y z s:Value) (t:TypeId):∀ j u,[x,y,z,s][j]?=some u->(w.alloc (.cells #[x,y,z,s] t)).cell? ((⟨w.heap.size,0,none⟩:Addr).add j)=some u:=by
 intro j u h
 match j,h with
 | 0,h=>simp at h;subst h;simp [Addr.add]
 | 1,h=>simp at h;subst h;simp [Addr.add]
 | 2,h=>simp at h;subst h;simp [Addr.add]
 | 3,h=>simp at h;subst h;simp [Addr.add]
theorem aAT (B:Nat) (v:Value) (ys:List Int) (p:Int) (w:World) (O:B<=w.heap.size) (L:Tab w) (y:OwB B w v ys) (hn:ys.length<=8388608) (a5:0<=p) (a6:p<=1114111) :
  Calls prog 179 #[v,.int .i32 p] w fun e w'=>∃ J,e=.returned J/\OwB B w' J (ys++enc p)/\Below B w w':=by
 obtain ⟨N,M,D,E,G⟩:=info_parts lL;have t1:=L.c1;have t2:=L.c2;have t3:=L.c3;clear L
 by_cases Z:p<128
 ·have H:Hid (enc p=[p]):=xO p Z;have U:p%256=p:=by omega
  go_enter func179,ntmps179
  go_wp2_with (first
   | (at_builtin;refine wpList_append_own _ rfl _ _ 27 rfl B 5 N (.int .u8 0) 1 1 underlying27 M D E G rfl (by decide) _ _ _ rfl (World.ownsRow.alloc y _) ⟨w.heap.size,0,none⟩ 1 1 [.int .u8 p] rfl rfl (cell_one_new _ _ _) (by intro u A;simp at A;subst A;rfl) (by unfold maxLen;omega) (by omega) (by simp;omega) ?_;intro J S j h _))
  have R:=cD (xs:=[p]) _ O y j (by simp) h;clear j h y;go_wp2;go_ret;exact ⟨_,rfl,by rw [H.out];exact R.1,R.2⟩
 ·by_cases h2:p<2048
  ·have H:Hid (enc p=[192+p / 64,128+p%64]):=aER p Z h2;have Y:bits .or .u8 192 (p / 64)=192+p / 64:=aMX _ (by omega) (by omega);have U:p / 64%256=p / 64:=by omega
   go_enter func179,ntmps179
   go_wp2_with (first
    | (go_at_call 191;refine (tV _ _ (by omega) (by omega)).mono ?_;rintro e w' ⟨rfl,rfl⟩)
    | (at_builtin;refine wpList_append_own _ rfl _ _ 27 rfl B 5 N (.int .u8 0) 1 1 underlying27 M D E G rfl (by decide) _ _ _ rfl (World.ownsRow.alloc y _) ⟨w.heap.size,0,none⟩ 2 2 [.int .u8 (192+p / 64),.int .u8 (128+p%64)] rfl rfl (wT _ _ _ _) (by intro u A;simp at A;rcases A with rfl | rfl<;>rfl) (by unfold maxLen;omega) (by omega) (by simp;omega) ?_;intro J S j h _))
   have R:=cD (xs:=[192+p / 64,128+p%64]) _ O y j (by simp) h;clear j h y;go_wp2;go_ret;exact ⟨_,rfl,by rw [H.out];exact R.1,R.2⟩
  ·by_cases X:p<65536
   ·have H:Hid (enc p=[224+p / 4096,128+p / 64%64,128+p%64]):=aEP p h2 X;have Y:bits .or .u8 224 (p / 4096)=224+p / 4096:=aMZ _ (by omega) (by omega);have U:p / 4096%256=p / 4096:=by omega
    go_enter func179,ntmps179
    go_wp2_with (first
     | (go_at_call 191;refine (tV _ _ (by omega) (by omega)).mono ?_;rintro e w' ⟨rfl,rfl⟩)
     | (at_builtin;refine wpList_append_own _ rfl _ _ 27 rfl B 5 N (.int .u8 0) 1 1 underlying27 M D E G rfl (by decide) _ _ _ rfl (World.ownsRow.alloc y _) ⟨w.heap.size,0,none⟩ 3 3 [.int .u8 (224+p / 4096),.int .u8 (128+p / 64%64),.int .u8 (128+p%64)] rfl rfl (aED _ _ _ _ _) (by intro u A;simp at A;rcases A with rfl | rfl | rfl<;>rfl) (by unfold maxLen;omega) (by omega) (by simp;omega) ?_;intro J S j h _))
    have R:=cD (xs:=[224+p / 4096,128+p / 64%64,128+p%64]) _ O y j (by simp) h;clear j h y;go_wp2;go_ret;exact ⟨_,rfl,by rw [H.out];exact R.1,R.2⟩
   ·have H:Hid (enc p=[240+p / 262144,128+p / 4096%64,128+p / 64%64,128+p%64]):=aE5 p X;have Y:bits .or .u8 240 (p / 262144)=240+p / 262144:=aM4 _ (by omega) (by omega);have U:p / 262144%256=p / 262144:=by omega
    go_enter func179,ntmps179
    go_wp2_with (first
     | (go_at_call 191;refine (tV _ _ (by omega) (by omega)).mono ?_;rintro e w' ⟨rfl,rfl⟩)
     | (at_builtin;refine wpList_append_own _ rfl _ _ 27 rfl B 5 N (.int .u8 0) 1 1 underlying27 M D E G rfl (by decide) _ _ _ rfl (World.ownsRow.alloc y _) ⟨w.heap.size,0,none⟩ 4 4 [.int .u8 (240+p / 262144),.int .u8 (128+p / 4096%64),.int .u8 (128+p / 64%64),.int .u8 (128+p%64)] rfl rfl (aFF _ _ _ _ _ _) (by intro u A;simp at A;rcases A with rfl | rfl | rfl | rfl<;>rfl) (by unfold maxLen;omega) (by omega) (by simp;omega) ?_;intro J S j h _))
    have R:=cD (xs:=[240+p / 262144,128+p / 4096%64,128+p / 64%64,128+p%64]) _ O y j (by simp) h;clear j h y;go_wp2;go_ret;exact ⟨_,rfl,by rw [H.out];exact R.1,R.2⟩
end Go.Proofs.YtgifkcpdihphlaaGreatDoor
