import Derived.Laws.BytesArg
import Derived.Laws.IdiomStrings
import Derived.Test.YtmfehflibkokbaaGreatDoorMAB
set_option maxHeartbeats 16000000
set_option maxRecDepth 100000
namespace Go.Proofs.YtmfehflibkokbaaGreatDoor
open Go.Proofs.Tryz
open Go.RowKit
def zV:List Int:=[0,9,10,13,31,32,34,39,92,47,42,127,128,160,233,2047,2048,8232,8233,65279,65535,65536,128512,1114111,48,57,110,117,120,36]
def zQ:List Int:=[55296,56319,56320,57343]
def dpV (sur:Bool) (k:Int):Int:=if k<150 then 97+k%20 else if k<240 then zV.getD (k%30).toNat 0 else if sur then zQ.getD (k%4).toNat 0 else 945+k%16
def dp (zs:List Int) (sur:Bool) (i:Nat):Int × Nat:=(dpV sur (nxD zs i).1,(nxD zs i).2)
theorem aDx (W:World) (L:List Int) (t:TypeId) (j:Nat) (y:j<L.length) (A:Array Value) (h:A=(L.map (Value.int .i64)).toArray) :
  (W.alloc (.cells A t)).cell? ⟨W.heap.size,j,none⟩=some (.int .i64 (L.getD j 0)):=by
 rw [cell_of_row (W.alloc (.cells A t)) W.heap.size j A t (0,0) (heap_alloc_new W _),h];simp [y]
theorem aKW (j:Nat):0<=zV.getD j 0/\zV.getD j 0<=1114111:=by
 by_cases h:j<30
 ·have:∀ m:Nat,m<30->0<=zV.getD m 0/\zV.getD m 0<=1114111:=by decide
  exact this j h
 ·rw [List.getD_eq_getElem?_getD,List.getElem?_eq_none (by simp [zV];omega)];simp
theorem aLu (j:Nat):0<=zQ.getD j 0/\zQ.getD j 0<=1114111:=by
 by_cases h:j<4
 ·have:∀ m:Nat,m<4->0<=zQ.getD m 0/\zQ.getD m 0<=1114111:=by decide
  exact this j h
 ·rw [List.getD_eq_getElem?_getD,List.getElem?_eq_none (by simp [zQ];omega)];simp
theorem aL1 (h:Bool) (k:Int) (_h0:0<=k):0<=dpV h k/\dpV h k<=1114111:=by
 unfold dpV
 split
 ·omega
 ·split
  ·exact aKW _
  ·split
   ·exact aLu _
   ·omega
theorem aAN (F:Nat) (v:Value) (zs:List Int) (i:Nat) (D:Bool) (w:World) (Z:Rdr F w v i) (hv:RdB F w v zs) (S:Bys zs) (hm:zs.length<=4194304) (hi:i<=zs.length) :
  Calls prog 134 #[.pointer (some ⟨F,0,none⟩),.bool D] w fun e w'=>e=.returned (.int .i64 (dp zs D i).1)/\Rdr F w' v ((dp zs D i).2:Int)/\w.grownBy w' (some F):=by
 have Y:∀ (x:Bool) (w:World),(Op.unary .not (.bool x)).run prog w=.ok (.bool (!x)) w:=fun _ _=>rfl;have N:=aIY S i;have E:=aAv F v zs i w Z hv S hm hi;have G:Hid (dp zs D i=(dpV D (nxD zs i).1,(nxD zs i).2)):=rfl;generalize (nxD zs i).1=k at N E G;generalize (nxD zs i).2=j at E G;obtain ⟨a5,a4⟩:=N;clear Z hv
 by_cases U:k<150
 ·have J:Hid (dpV D k=97+k%20):=by unfold Hid dpV;rw [if_pos U]
  go_enter func134,ntmps134
  go_wp2_with (go_at_call 28;refine E.mono ?_;rintro e O ⟨rfl,f1,M⟩)
  go_ret;exact ⟨by rw [G.out,J.out];rfl,by rw [G.out];exact f1,M⟩
 ·by_cases X:k<240
  ·have J:Hid (dpV D k=zV.getD (k%30).toNat 0):=(by unfold Hid dpV;rw [if_neg U,if_pos X]);have h:=fun W=>aDx W zV 3 (k%30).toNat (by simp [zV];omega) _ rfl;unfold zV at h;simp only [List.map_cons,List.map_nil] at h;generalize A:[0,9,10,13,31,32,34,39,92,47,42,127,128,160,233,2047,2048,8232,8233,65279,65535,65536,128512,1114111,48,57,110,117,120,36].getD (k%30).toNat (0:Int)=y at h;have HV:Hid (zV.getD (k%30).toNat 0=y):=A;clear A
   go_enter func134,ntmps134
   go_wp2_with (go_at_call 28;refine E.mono ?_;rintro e O ⟨rfl,f1,M⟩)
   go_ret;exact ⟨by rw [G.out,J.out,HV.out];rfl,by rw [G.out];exact f1.kept (World.grownBy_alloc _ _ none) (by simp),aA M gWA⟩
  ·cases D
   ·have J:Hid (dpV false k=945+k%16):=by unfold Hid dpV;rw [if_neg U,if_neg X];rfl
    go_enter func134,ntmps134
    go_wp2_with (go_at_call 28;refine E.mono ?_;rintro e O ⟨rfl,f1,M⟩)
    go_ret;exact ⟨by rw [G.out,J.out];rfl,by rw [G.out];exact f1.kept (World.grownBy_alloc _ _ none) (by simp),aA M gWA⟩
   ·have J:Hid (dpV true k=zQ.getD (k%4).toNat 0):=(by unfold Hid dpV;rw [if_neg U,if_neg X];rfl);have h:=fun (O:World) (o:Obj)=>aDx (O.alloc o) zQ 3 (k%4).toNat (by simp [zQ];omega) _ rfl;unfold zQ at h;simp only [List.map_cons,List.map_nil,World.size_alloc] at h;generalize A:[55296,56319,56320,57343].getD (k%4).toNat (0:Int)=y at h;have HV:Hid (zQ.getD (k%4).toNat 0=y):=A;clear A
    go_enter func134,ntmps134
    go_wp2_with (go_at_call 28;refine E.mono ?_;rintro e O ⟨rfl,f1,M⟩)
    go_ret;exact ⟨by rw [G.out,J.out,HV.out];rfl,by rw [G.out];exact (f1.kept (World.grownBy_alloc _ _ none) (by simp)).kept (World.grownBy_alloc _ _ none) (by simp),aA (aA M gWA) gWA⟩
structure StD (F:Nat) (v:Value) (zs:List Int) (Γ:Gm) (w:World):Prop where
 wt:WT 64 (F+1) Γ w
 rd:∃ i:Nat,i<=zs.length/\Rdr F w v (i:Int)
 tx:RdB F w v zs
structure Zs (zs:List Int):Prop where
 by':Bys zs
 ln:zs.length<=4194304
section
variable {F:Nat} {v:Value} {zs:List Int} {Γ Γ':Gm} {w w':World}
theorem StD.lt (h:StD F v zs Γ w):F+1<=w.heap.size:=by obtain ⟨i,_,y⟩:=h.rd;exact y.lt
theorem StD.K (h:StD F v zs Γ w) (g:w.grownBy w' none):StD F v zs Γ w':=by
 obtain ⟨i,A,y⟩:=h.rd;exact ⟨h.wt.grown g (fun x e=>by cases e),⟨i,A,y.kept g (by simp)⟩,h.tx.K g⟩
theorem StD.turn (h:StD F v zs Γ w) (J:WT 64 (F+1) Γ' w') (b:Below (F+1) w w'):StD F v zs Γ' w':=by
 obtain ⟨i,O,G⟩:=h.rd;refine ⟨J,⟨i,O,(b.block F (by omega)).trans G⟩,?_⟩;obtain ⟨a,cap,hv,y⟩:=h.tx;refine ⟨a,cap,hv,fun E=>?_⟩;obtain ⟨A,off,M,N,D⟩:=y E;exact ⟨A,off,M,N,fun j S=>(b.cell (p:=⟨A,off+j,none⟩) (by simp;omega)).trans (D j S)⟩
theorem StD.down (b:Below (F+1) w w'):Below F w w':=b.mono (by omega)
theorem StD.next (h:StD F v zs Γ w) (y:Zs zs):Calls prog 28 #[.pointer (some ⟨F,0,none⟩)] w fun e w'=>∃ k:Int,e=.returned (.int .i64 k)/\0<=k/\k<=255/\StD F v zs Γ w'/\w.grownBy w' (some F):=by
 obtain ⟨i,D,E⟩:=h.rd;refine (aAv F v zs i w E h.tx y.by' y.ln D).mono ?_;rintro e w' ⟨rfl,f,g⟩;have A:=aIY y.by' i;exact ⟨_,rfl,A.1,A.2,⟨h.wt.grown g (fun x e=>by cases e;omega),⟨_,aKD D,f⟩,h.tx.beside g (fun x e=>by cases e;omega)⟩,g⟩
theorem StD.point (h:StD F v zs Γ w) (A:Zs zs) (y:Bool):Calls prog 134 #[.pointer (some ⟨F,0,none⟩),.bool y] w fun e w'=>∃ k:Int,e=.returned (.int .i64 k)/\0<=k/\k<=1114111/\StD F v zs Γ w'/\w.grownBy w' (some F):=by
 obtain ⟨i,E,G⟩:=h.rd;refine (aAN F v zs i y w G h.tx A.by' A.ln E).mono ?_;rintro e w' ⟨rfl,f,g⟩;have J:=aIY A.by' i;have D:=aL1 y (nxD zs i).1 J.1;exact ⟨_,rfl,D.1,D.2,⟨h.wt.grown g (fun x e=>by cases e;omega),⟨_,aKD E,f⟩,h.tx.beside g (fun x e=>by cases e;omega)⟩,g⟩
theorem StD.low (h:StD F v zs Γ w) (g:w.grownBy w' (some F)):Below F w w':=⟨g.os,g.tape,g.output,g.size,fun k y=>g.block k (by have:=h.lt;omega) (by simp;omega)⟩
theorem StD.low0 (h:StD F v zs Γ w) (g:w.grownBy w' none):Below (F+1) w w':=⟨g.os,g.tape,g.output,g.size,fun k y=>g.block k (by have:=h.lt;omega) (by simp)⟩
structure Dn (F:Nat) (v:Value) (zs:List Int) (Γ:Gm) (w:World) (Γ':Gm) (w':World):Prop where
 st:StD F v zs Γ' w'
 le:Gle Γ Γ'
 bl:Below F w w'
theorem Dn.refl (h:StD F v zs Γ w):Dn F v zs Γ w Γ w:=⟨h,Gle.refl _,Below.refl _ _⟩
theorem Dn.next {Γ0:Gm} {w0:World} (h:Dn F v zs Γ0 w0 Γ w) (y:StD F v zs Γ w') (g:w.grownBy w' (some F)):Dn F v zs Γ0 w0 Γ w':=⟨y,h.le,h.bl.trans (h.st.low g)⟩
theorem Dn.K {Γ0:Gm} {w0:World} (h:Dn F v zs Γ0 w0 Γ w) (g:w.grownBy w' none):Dn F v zs Γ0 w0 Γ w':=⟨h.st.K g,h.le,h.bl.trans (StD.down (h.st.low0 g))⟩
theorem Dn.turn {Γ0:Gm} {w0:World} (h:Dn F v zs Γ0 w0 Γ w) (y:WT 64 (F+1) Γ' w') (g:Gle Γ Γ') (b:Below (F+1) w w'):Dn F v zs Γ0 w0 Γ' w':=⟨h.st.turn y b,h.le.trans g,h.bl.trans (StD.down b)⟩
theorem Dn.trans {Γ0:Gm} {w0:World} (h:Dn F v zs Γ0 w0 Γ w) (y:Dn F v zs Γ w Γ' w'):Dn F v zs Γ0 w0 Γ' w':=⟨y.st,h.le.trans y.le,h.bl.trans y.bl⟩
theorem StD.left (h:StD F v zs Γ w) (D:Zs zs):Calls prog 63 #[.pointer (some ⟨F,0,none⟩)] w fun e w'=>∃ n:Nat,e=.returned (.int .i64 (n:Int))/\n<=4194304/\StD F v zs Γ w'/\w.grownBy w' none:=by
 obtain ⟨i,M,A⟩:=h.rd;have H:=aB h;have E:=A.c0;have J:=A.c1;have G:=D.ln;obtain ⟨a,cap,hv,y⟩:=h.tx;subst hv;clear A y h
 go_enter func63,ntmps63
 go_wp2
 go_quiet (fail)
 go_wp2;go_ret;exact ⟨zs.length - i,by go_num,by omega,H.out.K (cO (World.grownBy.refl _ _) _),cO (World.grownBy.refl _ _) _⟩
end
section
variable {F:Nat} {v:Value} {zs:List Int} {Γ Γ' Γ0:Gm} {w w' w0:World}
theorem Dn.new (h:Dn F v zs Γ0 w0 Γ w) (k:HK) (m:Nat) (y:Array Value) (A:y.size=m*k.sz) (D:∀ j,j<y.size->∃ u,y[j]?=some u/\Hc 64 Γ k (j%k.sz) u):Dn F v zs Γ0 w0 (upd Γ w.heap.size (k,m,0)) (w.alloc (.cells y k.ty)):=
 h.turn (h.st.wt.new h.st.lt k m y (0,0) A (.inl rfl) D) (cQ h.st.wt _) ((Below.refl _ _).alloc h.st.lt _)
theorem Dn.set (h:Dn F v zs Γ0 w0 Γ w) {b:Nat} {k:HK} {m s:Nat} (y:Γ b=some (k,m,s)) (j:Nat) {u:Value} (A:Hc 64 Γ k (j%k.sz) u):Dn F v zs Γ0 w0 Γ (w.setCell ⟨b,j,none⟩ u):=
 h.turn (h.st.wt.set y j A) (Gle.refl _) ((Below.refl _ _).setCell (p:=⟨b,j,none⟩) (h.st.wt.lt y).1 u)
theorem Dn.app {k:HK} {o:Value} {n:Nat} (h:Dn F v zs Γ0 w0 Γ w) (hv:HV Γ k o n) (y:Array Value) (S:y.size=k.sz) (O:∀ j u,y[j]?=some u->Hc 64 Γ k j u) (hn:n<=100000) (X:k.ok=true:=by rfl) :
  ∃ D w' Γ',(Builtin.append_ #[k.sl,k.sl] k.sl #[o,.slice (some ⟨w.heap.size,0,none⟩) 1 1]).run prog (w.alloc (.cells y k.ty))=.ok D w'/\HV Γ' k D (n+1)/\Gle Γ Γ'/\Dn F v zs Γ0 w0 Γ' w':=by
 have g:=World.grownBy_alloc w (.cells y k.ty) none;have J:=X;have G:=h.K g
 obtain ⟨D,w',Γ',U,Z,M,N,Y⟩:=G.st.wt.app G.st.lt hv w.heap.size 0 1 1 (by omega) y.toList (by simp [S])
  (fun j u A=>by
   rw [Nat.zero_add,cell_of_row _ w.heap.size j _ _ _ (heap_alloc_new w _)]
   rwa [Array.getElem?_toList] at A)
  (fun j u A=>by
   have E:j<k.sz:=(by have:=(List.getElem?_eq_some_iff.1 A).1;simp at this;omega);rw [Nat.mod_eq_of_lt E];rw [Array.getElem?_toList] at A;exact O j u A) (by omega) J
 exact ⟨D,w',Γ',U,Z,M,G.turn N M Y⟩
theorem Dn.conv (h:Dn F v zs Γ0 w0 Γ w) (y:List Int) (U:Bys y) (Z:y.length<=64) :
  ∃ cap w' Γ',(convert 9 22 (.string (strOfNums y))).run prog w=.ok (.slice (some ⟨w.heap.size,0,none⟩) y.length cap) w'/\HV Γ' .bs (.slice (some ⟨w.heap.size,0,none⟩) y.length cap) y.length/\Gle Γ Γ'/\Dn F v zs Γ0 w0 Γ' w'/\w.grownBy w' none/\w'.heap.size=w.heap.size+1/\RdB w'.heap.size w' (.slice (some ⟨w.heap.size,0,none⟩) y.length cap) y:=by
 have O:=run_bytes_of_string (P:=prog) w 9 22 5 (strOfNums y) underlying9 underlying22 underlying5;rw [strOfNums_size] at O;have hg:=grownCap_ge w y.length 0 5
 have N:(bytesRow (strOfNums y) (grownCap w y.length 0 5)).size=grownCap w y.length 0 5:=by
  simp only [bytesRow,Array.size_append,Array.size_replicate,strOfNums,ByteArray.size,List.map_toArray,List.size_toArray,List.length_map];omega
 have J:WT 64 (F+1) Γ w.drew:=h.st.wt
 have G:∀ j,j<(bytesRow (strOfNums y) (grownCap w y.length 0 5)).size->∃ u,(bytesRow (strOfNums y) (grownCap w y.length 0 5))[j]?=some u/\Hc 64 Γ .bs (j%HK.bs.sz) u:=fun j E=>by
  by_cases A:j<y.length
  ·have M:=U _ (List.getElem_mem A);refine ⟨.int .u8 y[j],?_,y[j],rfl,M⟩;unfold bytesRow;rw [Array.getElem?_append_left (by simp [strOfNums,A])];simp [strOfNums,A];omega
  ·refine ⟨.int .u8 0,?_,0,rfl,by omega,by omega⟩;rw [N] at E;unfold bytesRow;have D:(Array.map (fun b:UInt8=>Value.int IntKind.u8 (b.toNat:Int)) (strOfNums y).data).size=y.length:=(by simp [strOfNums]);rw [Array.getElem?_append_right (by rw [D];omega),D,Array.getElem?_replicate,if_pos (by rw [strOfNums_size];omega)]
 have Y:=J.new h.st.lt .bs (grownCap w y.length 0 5) (bytesRow (strOfNums y) (grownCap w y.length 0 5)) ((bytesRow (strOfNums y) (grownCap w y.length 0 5)).size,(bytesRow (strOfNums y) (grownCap w y.length 0 5)).size+1) (by rw [N];simp [HK.sz]) (.inr rfl) G;have X:w.grownBy w.drew none:=⟨rfl,rfl,rfl,Nat.le_refl _,fun _ _ _=>rfl⟩;have S:=aA X (World.grownBy_alloc w.drew (.cells (bytesRow (strOfNums y) (grownCap w y.length 0 5)) 5 ((bytesRow (strOfNums y) (grownCap w y.length 0 5)).size,(bytesRow (strOfNums y) (grownCap w y.length 0 5)).size+1)) none);refine ⟨_,_,upd Γ w.heap.size (.bs,grownCap w y.length 0 5,0),O,.inr ⟨w.heap.size,_,0,rfl,by unfold upd;rw [if_pos rfl],by omega,grownCap_le_maxLen _ _ _ _ (by unfold maxLen;omega)⟩,cQ J _,h.turn Y (cQ J _) (h.st.low0 S),S,by simp,⟨_,_,rfl,fun _=>⟨w.heap.size,0,rfl,by simp,fun j E=>?_⟩⟩⟩;rw [Nat.zero_add];refine (cell_of_row _ w.heap.size j _ _ _ (heap_alloc_new w.drew _)).trans ?_;have M:=U _ (List.getElem_mem E);unfold bytesRow;rw [Array.getElem?_append_left (by simp [strOfNums,E])];simp [strOfNums,E];omega
end
attribute [-go_sem] Builtin.append_
theorem lM {F:Nat} {v:Value} {zs:List Int} {Γ:Gm} {w:World} (hs:StD F v zs Γ w) (hz:Zs zs) (h:Int) (h1:1<=h) (d3:h<=12) :
  Calls prog 102 #[.pointer (some ⟨F,0,none⟩),.int .i64 h] w fun e w'=>∃ o,e=.returned o/\∃ Γ' n,HV Γ' .is o n/\n<=12/\Dn F v zs Γ w Γ' w':=by
 have HZ:=aB hz;have HS:=aB hs;have HN:=aB (hs.next hz);clear hs hz
 go_enter func102,ntmps102
 go_wp2_with fail
 refine HN.out.mono ?_;rintro e w1 ⟨k,rfl,d7,d9,s1,g1⟩;have D1:=aB ((Dn.refl HS.out).next s1 g1);have d5:(h==0)=false:=(by simp;omega);have S:0<=k%h:=Int.emod_nonneg k (by omega);have b6:k%h<h:=Int.emod_lt_of_pos k (by omega);clear HN s1 g1;go_wp2
 go_loopw [6,7] (fun o t W=>∃ (m:Nat) (Γ1:Gm),(m:Int)<=k%h/\t=.int .i64 m/\HV Γ1 .is o m/\Dn F v zs Γ w Γ1 W)
  (fun _ t _=>(k%h).toNat - (intOf t).toNat)
 case atStart=>exact ⟨0,Γ,S,rfl,.inl ⟨rfl,rfl⟩,D1.out⟩
 case round=>
  obtain ⟨m,Γ1,hm,rfl,X,Z⟩:=hrel
  by_cases d8:(m:Int)<k%h
  ·have HN:=aB (Z.st.next HZ.out);have HV:=aB X;have HD:=aB Z;obtain ⟨oa,oc,U,_⟩:=X.sl;subst U;clear X Z
   go_wp2_with fail
   refine HN.out.mono ?_;rintro e w2 ⟨N,rfl,c1,c8,s2,g2⟩;have D2:=aB (HD.out.next s2 g2);clear HN HD s2 g2
   by_cases Y:N%5=0
   ·have q5:(N%5==0)=true:=by simpa using Y
    obtain ⟨o',w3,Γ3,y,A,_,E⟩:=D2.out.app (k:=.is) HV.out #[.int .i64 (55296+N*4)] rfl (fun j u D=>by
     match j,D with
     | 0,D=>simp at D;subst D;exact ⟨_,rfl,by omega,by omega⟩
     | j+1,D=>simp at D) (by omega)
    replace y:(Builtin.append_ #[33,33] 33 #[.slice oa m oc,.slice (some ⟨w2.heap.size,0,none⟩) 1 1]).run prog (w2.alloc (.cells #[.int .i64 (55296+N*4)] 3))=.ok o' w3:=y;have G:=aB A;have M:=aB E;obtain ⟨pa,pc,J,_⟩:=A.sl;subst J;clear A E Y;go_wp2
    go_roundw
    case rel=>exact ⟨m+1,Γ3,by omega,by go_num,G.out,M.out⟩
    case measure=>simp [intOf];omega
   ·have q5:(N%5==0)=false:=by simpa using Y
    by_cases O:N%5=1
    ·have b4:(N%5==1)=true:=by simpa using O
     obtain ⟨o',w3,Γ3,y,A,_,E⟩:=D2.out.app (k:=.is) HV.out #[.int .i64 (56320+N*4)] rfl (fun j u D=>by
      match j,D with
      | 0,D=>simp at D;subst D;exact ⟨_,rfl,by omega,by omega⟩
      | j+1,D=>simp at D) (by omega)
     replace y:(Builtin.append_ #[33,33] 33 #[.slice oa m oc,.slice (some ⟨w2.heap.size,0,none⟩) 1 1]).run prog (w2.alloc (.cells #[.int .i64 (56320+N*4)] 3))=.ok o' w3:=y;have G:=aB A;have M:=aB E;obtain ⟨pa,pc,J,_⟩:=A.sl;subst J;clear A E Y O;go_wp2
     go_roundw
     case rel=>exact ⟨m+1,Γ3,by omega,by go_num,G.out,M.out⟩
     case measure=>simp [intOf];omega
    ·have b4:(N%5==1)=false:=(by simpa using O);have a5:=aB (D2.out.st.point HZ.out true);clear Y O
     go_wp2_with fail
     refine a5.out.mono ?_;rintro e w4 ⟨k4,rfl,c0,b7,s4,g4⟩;have D4:=aB (D2.out.next s4 g4);clear a5 D2 s4 g4
     obtain ⟨o',w3,Γ3,y,A,_,E⟩:=D4.out.app (k:=.is) HV.out #[.int .i64 (k4%65536)] rfl (fun j u D=>by
      match j,D with
      | 0,D=>simp at D;subst D;exact ⟨_,rfl,by omega,by omega⟩
      | j+1,D=>simp at D) (by omega)
     replace y:(Builtin.append_ #[33,33] 33 #[.slice oa m oc,.slice (some ⟨w4.heap.size,0,none⟩) 1 1]).run prog (w4.alloc (.cells #[.int .i64 (k4%65536)] 3))=.ok o' w3:=y;have G:=aB A;have M:=aB E;obtain ⟨pa,pc,J,_⟩:=A.sl;subst J;clear A E;go_wp2
     go_roundw
     case rel=>exact ⟨m+1,Γ3,by omega,by go_num,G.out,M.out⟩
     case measure=>simp [intOf];omega
  ·have HV:=aB X;have HD:=aB Z;obtain ⟨oa,oc,U,_⟩:=X.sl;subst U;clear X Z;go_wp2;go_ret;exact ⟨_,rfl,Γ1,m,HV.out,by omega,HD.out⟩
theorem vI (W:World) (L:List (List Int)) (t:TypeId) (j:Nat) (y:j<L.length) (A:Array Value) (h:A=(L.map fun s=>Value.string (strOfNums s)).toArray) :
  (W.alloc (.cells A t)).cell? ⟨W.heap.size,j,none⟩=some (.string (strOfNums (L.getD j []))):=by
 rw [cell_of_row (W.alloc (.cells A t)) W.heap.size j A t (0,0) (heap_alloc_new W _),h];simp [y]
def Wds (L:List (List Int)):Bool:=L.all fun t=>decide (t.length<=64)&&t.all fun z=>decide (0<=z/\z<=255)
theorem Wds.at {L:List (List Int)} (h:Wds L=true) (n:Nat):(L.getD n []).length<=64/\Bys (L.getD n []):=by
 by_cases y:n<L.length
 ·have:=List.all_eq_true.1 h L[n] (List.getElem_mem y);simp only [Bool.and_eq_true,decide_eq_true_eq,List.all_eq_true] at this;rw [List.getD_eq_getElem?_getD,List.getElem?_eq_getElem y];exact this
 ·rw [List.getD_eq_getElem?_getD,List.getElem?_eq_none (by omega)];exact ⟨by simp,fun z A=>by simp at A⟩
def aJo:List (List Int):=[[],[32,99],[120,32,121,32],[42],[47],[195,169],[97,10,98],[10],[32,123,91],[42,32,47],[47,47],[97,10,32,32,98,10],[39],[42,42]]
theorem aHp {L:Nat} {Γ:Gm} {u0 u1:Value} (y:aIL u0) (h:HW Γ .bs L u1):∀ j,j<(#[u0,u1]:Array Value).size->∃ u,(#[u0,u1]:Array Value)[j]?=some u/\Hc L Γ .cm (j%HK.cm.sz) u:=fun j A=>by
 match j,A with
 | 0,_=>exact ⟨u0,rfl,y⟩
 | 1,_=>exact ⟨u1,rfl,h⟩
theorem bG (Γ:Gm) (b:Nat) (x:HK × Nat × Nat):upd Γ b x b=some x:=by unfold upd;rw [if_pos rfl]
theorem WT.two {L H:Nat} {Γ:Gm} {w:World} (h:WT L H Γ w) {b:Nat} (A:Γ b=some (.cm,1,0)):∃ y tv,w.cell? ⟨b,0,none⟩=some (.bool y)/\w.cell? ⟨b,1,none⟩=some tv/\HW Γ .bs L tv/\w.frozen? ⟨b,0,none⟩=false/\w.frozen? ⟨b,1,none⟩=false:=by
 obtain ⟨u0,G,⟨y,rfl⟩,f0⟩:=h.cell A (j:=0) (by decide);obtain ⟨u1,E,D,f1⟩:=h.cell A (j:=1) (by decide);exact ⟨y,u1,G,E,D,f0,f1⟩
attribute [-go_sem] Builtin.append_
theorem aAm {F:Nat} {v:Value} {zs:List Int} {Γ:Gm} {w:World} (hs:StD F v zs Γ w) (hz:Zs zs) :
  Calls prog 104 #[.pointer (some ⟨F,0,none⟩)] w fun e w'=>∃ u tv,e=.returned (.agg #[u,tv])/\aIL u/\∃ Γ',HW Γ' .bs 64 tv/\Dn F v zs Γ w Γ' w':=by
 have c8:∀ (x:Bool) (w:World),(Op.unary .not (.bool x)).run prog w=.ok (.bool (!x)) w:=fun _ _=>rfl;have D0:=(Dn.refl hs).new .cm 1 #[.bool false,.slice none 0 0] rfl (aHp ⟨false,rfl⟩ (HW.nil _ _ _));have HN:=aB (D0.st.next hz);have a5:=aB D0;have hR:=bG Γ w.heap.size (.cm,1,0);generalize upd Γ w.heap.size (.cm,1,0)=Γ1 at *;clear hs D0 hz
 go_enter func104,ntmps104
 go_wp2_with fail
 refine HN.out.mono ?_;rintro e J ⟨k,rfl,g2,g3,s1,g1⟩;have E:=vI J aJo 9 (k / 2%14).toNat (by simp [aJo];omega) #[.string { data:=#[] },.string { data:=#[32,99] },.string { data:=#[120,32,121,32] },.string { data:=#[42] },.string { data:=#[47] },.string { data:=#[195,169] },.string { data:=#[97,10,98] },.string { data:=#[10] },.string { data:=#[32,123,91] },.string { data:=#[42,32,47] },.string { data:=#[47,47] },.string { data:=#[97,10,32,32,98,10] },.string { data:=#[39] },.string { data:=#[42,42] }] rfl;have D:=Wds.at (L:=aJo) (by decide) (k / 2%14).toNat;generalize aJo.getD (k / 2%14).toNat []=t at E D;have gB:=World.grownBy_alloc J (Obj.cells #[.string { data:=#[] },.string { data:=#[32,99] },.string { data:=#[120,32,121,32] },.string { data:=#[42] },.string { data:=#[47] },.string { data:=#[195,169] },.string { data:=#[97,10,98] },.string { data:=#[10] },.string { data:=#[32,123,91] },.string { data:=#[42,32,47] },.string { data:=#[47,47] },.string { data:=#[97,10,32,32,98,10] },.string { data:=#[39] },.string { data:=#[42,42] }] 9) none;have D1:=(a5.out.next s1 g1).K gB;obtain ⟨cap,X,Γ3,N,S,a4,D3,_,a7,_⟩:=D1.conv t D.2 D.1;have D4:=D3.new .cm 1 #[.bool (k%2==1),.slice (some ⟨(J.alloc (Obj.cells #[.string { data:=#[] },.string { data:=#[32,99] },.string { data:=#[120,32,121,32] },.string { data:=#[42] },.string { data:=#[47] },.string { data:=#[195,169] },.string { data:=#[97,10,98] },.string { data:=#[10] },.string { data:=#[32,123,91] },.string { data:=#[42,32,47] },.string { data:=#[47,47] },.string { data:=#[97,10,32,32,98,10] },.string { data:=#[39] },.string { data:=#[42,42] }] 9)).heap.size,0,none⟩) t.length cap] rfl (aHp ⟨_,rfl⟩ ⟨t.length,D.1,S⟩);have hC:=bG Γ3 X.heap.size (.cm,1,0);have G:upd Γ3 X.heap.size (.cm,1,0) w.heap.size=some (.cm,1,0):=(a4.trans (cQ D3.st.wt _)).full hR;have a6:X.heap.size=J.heap.size+1+1:=(by simpa using a7);simp only [World.size_alloc] at D4 N
 have Z:HW (upd Γ3 X.heap.size (.cm,1,0)) .bs 64 (.slice (some ⟨J.heap.size+1,0,none⟩) t.length cap):=by
  have h:=HW.mono (L:=64) (L':=64) ⟨t.length,D.1,S⟩ (cQ D3.st.wt (.cm,1,0)) (Nat.le_refl _);simpa only [World.size_alloc] using h
 have O:=aB Z;have A:=aB D4;clear HN a5 D1 D3 D4 s1 g1 gB S a4 Z a7 hR;generalize upd Γ3 X.heap.size (.cm,1,0)=Γ4 at *
 by_cases h2:k%2=1
 ·have q2:(k%2==1)=true:=(by simpa using h2);rw [q2] at A;obtain ⟨rb,rt,r0,r1,_,f0,f1⟩:=(show WT 64 (F+1) Γ4 (X.alloc (Obj.cells #[.bool true,.slice (some ⟨J.heap.size+1,0,none⟩) t.length cap] 128)) from A.out.st.wt).two G;have y:=aB G;clear h2 G hC;go_wp2;refine bodyPost_ret (v:=.agg #[.bool true,.slice (some ⟨J.heap.size+1,0,none⟩) t.length cap]) (by simp [results,Tryz.results104,go_sem,r0,r1]) rfl ?_;exact ⟨_,_,rfl,⟨true,rfl⟩,Γ4,O.out,(A.out.set y.out 0 ⟨true,rfl⟩).set y.out 1 O.out⟩
 ·have q2:(k%2==1)=false:=(by simpa using h2);rw [q2] at A;have y:=aB G;have HC:=aB hC;rw [a6] at HC;obtain ⟨W4,U⟩:∃ W4,W4=X.alloc (Obj.cells #[.bool false,.slice (some ⟨J.heap.size+1,0,none⟩) t.length cap] 128):=⟨_,rfl⟩;have c3:Hid (Dn F v zs Γ w Γ4 W4):=(by unfold Hid;rw [U];exact A.out);clear h2 G hC O A;go_wp2;rw [<- U];clear U N E;generalize J.heap.size+1+1=Cb at *;generalize w.heap.size=R at *
  go_loopw [6] (fun i W=>∃ n:Nat,n<=64/\i=.int .i64 n/\Dn F v zs Γ w Γ4 W) (fun i _=>64 - (intOf i).toNat)
  case atStart=>exact ⟨0,Nat.zero_le _,rfl,c3.out⟩
  case round=>
   obtain ⟨n,hn,rfl,Y⟩:=hrel;obtain ⟨cb,tv,c0,c1,⟨q,hq,hV⟩,f6,g5⟩:=Y.st.wt.two HC.out;obtain ⟨rb,rt,r0,r1,_,f0,f1⟩:=Y.st.wt.two y.out;have HD:=aB Y;have b5:=aB hV
   by_cases b8:n<q
   ·rcases hV with ⟨_,h0⟩ | ⟨b,m,sp,rfl,hΓ,f9,g4⟩
    ·omega
    ·obtain ⟨u,e0,⟨z,rfl,g6,f5⟩,ef⟩:=Y.st.wt.cell hΓ (j:=n) (by simp only [HK.sz];omega);have hI:(n:Int)<(q:Int):=(by omega);have HΓ:=aB hΓ;clear Y hΓ
     by_cases M:z=10
     ·have b4:(z==10)=true:=(by simpa using M);clear M;go_wp2
      go_roundw
      case rel=>exact ⟨n+1,by omega,by go_num,HD.out.set HΓ.out n ⟨46,rfl,by omega,by omega⟩⟩
      case measure=>simp [intOf];omega
     ·have b4:(z==10)=false:=(by simpa using M);clear M;go_wp2
      go_roundw
      case rel=>exact ⟨n+1,by omega,by go_num,HD.out⟩
      case measure=>simp [intOf];omega
   ·have hI:¬ (n:Int)<(q:Int):=(by omega);have f4:¬ n<q:=b8;obtain ⟨ta,tc,b9,_⟩:=hV.sl;subst b9;clear hV Y;go_wp2;refine bodyPost_ret (v:=.agg #[.bool cb,.slice ta q tc]) (by simp [results,Tryz.results104,go_sem,r0,r1]) rfl ?_;have hw:HW Γ4 .bs 64 (.slice ta q tc):=⟨q,hq,b5.out⟩;exact ⟨_,_,rfl,⟨cb,rfl⟩,Γ4,hw,(HD.out.set y.out 0 ⟨cb,rfl⟩).set y.out 1 hw⟩
def aCU:List (List Int):=[[97],[98],[107,101,121],[36,120],[95],[97,49],[110,117,108,108],[97,32,98],[],[49,97],[195,169],[108,111,110,103,95,110,97,109,101,95,111,102,95,97,95,107,101,121],[73,110,102,105,110,105,116,121]]
def aFv:List (List Int):=[[48],[49],[45,49],[43,49],[49,50,46,53],[46,53],[53,46],[49,101,51],[49,69,43,51],[50,101,45,49,48],[48,120,49,70],[45,48,88,97,98],[73,110,102,105,110,105,116,121],[45,73,110,102,105,110,105,116,121],[43,78,97,78],[78,97,78],[48,46,48],[49,48],[45,46,53,101,49],[53,46,101,50],[48,101,48],[43,48,120,48]]
theorem aF3:∀ n:Nat,n<13->(eS (aCU.getD n [])).1.all (fun z=>decide (-9223372036854775808<=z/\z<=9223372036854775807))=true:=by decide
section
variable {F:Nat} {v:Value} {zs:List Int} {Γ Γ' Γ0:Gm} {w w' w0:World}
theorem Dn.own {o:Value} {ys:List Int} (h:Dn F v zs Γ0 w0 Γ w) (g:w.grownBy w' none) (X:OwI w.heap.size w' o ys) (hb:∀ z∈ys,-9223372036854775808<=z/\z<=9223372036854775807):∃ Γ',HV Γ' .is o ys.length/\Gle Γ Γ'/\Dn F v zs Γ0 w0 Γ' w':=by
 rcases X.2 with ⟨hv,Y⟩ | ⟨c,cap,O,hv,J,E,U,N,M,A⟩
 ·exact ⟨Γ,.inl ⟨hv,Y⟩,Gle.refl _,h.K g⟩
 ·have D:cap - (cap - ys.length)=ys.length:=by omega
  obtain ⟨Z,G⟩:=h.st.wt.newS h.st.lt g J .is cap (cap - ys.length) (fun Γ' _=>⟨O,(0,0),E,M,by omega,.inl rfl,fun j S=>by
   rw [D] at S;have y:j<ys.length:=(by simpa [HK.sz] using S);have:=congrArg (fun l=>l[j]?) A;simp only [Nat.mul_one] at this;rw [List.getElem?_take,if_pos y,Array.getElem?_toList] at this;refine ⟨.int .i64 ys[j],?_,ys[j],rfl,hb _ (List.getElem_mem y)⟩;rw [this];simp [y]⟩) (h.st.wt.gone J)
  exact ⟨_,.inr ⟨c,cap,cap - ys.length,hv,by unfold upd;rw [if_pos rfl],by omega,N⟩,G,h.turn Z G (h.st.low0 g)⟩
end
theorem rY {F:Nat} {v:Value} {zs:List Int} {Γ:Gm} {w:World} (A:StD F v zs Γ w) (G:Zs zs) :
  Calls prog 101 #[.pointer (some ⟨F,0,none⟩)] w fun e w'=>∃ t:List Int,e=.returned (.string (strOfNums t))/\(t.length<=64/\Bys t)/\Dn F v zs Γ w Γ w':=by
 have J:=World.grownBy_alloc w (Obj.cells #[.string { data:=#[48] },.string { data:=#[49] },.string { data:=#[45,49] },.string { data:=#[43,49] },.string { data:=#[49,50,46,53] },.string { data:=#[46,53] },.string { data:=#[53,46] },.string { data:=#[49,101,51] },.string { data:=#[49,69,43,51] },.string { data:=#[50,101,45,49,48] },.string { data:=#[48,120,49,70] },.string { data:=#[45,48,88,97,98] },.string { data:=#[73,110,102,105,110,105,116,121] },.string { data:=#[45,73,110,102,105,110,105,116,121] },.string { data:=#[43,78,97,78] },.string { data:=#[78,97,78] },.string { data:=#[48,46,48] },.string { data:=#[49,48] },.string { data:=#[45,46,53,101,49] },.string { data:=#[53,46,101,50] },.string { data:=#[48,101,48] },.string { data:=#[43,48,120,48] }] 9) none;have D:=(Dn.refl A).K J;have O:=aB (D.st.next G);have M:=aB D;have h:=fun n U=>vI w aFv 9 n U #[.string { data:=#[48] },.string { data:=#[49] },.string { data:=#[45,49] },.string { data:=#[43,49] },.string { data:=#[49,50,46,53] },.string { data:=#[46,53] },.string { data:=#[53,46] },.string { data:=#[49,101,51] },.string { data:=#[49,69,43,51] },.string { data:=#[50,101,45,49,48] },.string { data:=#[48,120,49,70] },.string { data:=#[45,48,88,97,98] },.string { data:=#[73,110,102,105,110,105,116,121] },.string { data:=#[45,73,110,102,105,110,105,116,121] },.string { data:=#[43,78,97,78] },.string { data:=#[78,97,78] },.string { data:=#[48,46,48] },.string { data:=#[49,48] },.string { data:=#[45,46,53,101,49] },.string { data:=#[53,46,101,50] },.string { data:=#[48,101,48] },.string { data:=#[43,48,120,48] }] rfl;have a4:F<w.heap.size:=A.lt;clear A D G
 go_enter func101,ntmps101
 go_wp2_with fail
 refine O.out.mono ?_;rintro e w1 ⟨k,rfl,X,Y,N,E⟩;have Z:=aB (M.out.next N E);have S:=E.cell (h (k%22).toNat (by simp [aFv];omega)) (by simp;omega);have y:=Wds.at (L:=aFv) (by decide) (k%22).toNat;generalize aFv.getD (k%22).toNat []=t at S y;clear O M N E h J;go_wp2;go_ret;exact ⟨t,rfl,y,Z.out⟩
attribute [-go_sem] Builtin.append_
theorem aX {F:Nat} {v:Value} {zs:List Int} {Γ:Gm} {w:World} (hs:StD F v zs Γ w) (Z:Zs zs) (h:Int) (h1:1<=h) (h2:h<=1000000) :
  Calls prog 64 #[.pointer (some ⟨F,0,none⟩),.int .i64 h] w fun e w'=>∃ o,e=.returned o/\∃ Γ',HW Γ' .cm 64 o/\Dn F v zs Γ w Γ' w':=by
 have HZ:=aB Z;have HS:=aB hs;have HN:=aB (hs.next Z);clear hs Z;have c7:(h==0)=false:=by simp;omega
 by_cases hp:True
 ·go_enter func64,ntmps64
  go_wp2_with fail
  refine HN.out.mono ?_;rintro e w1 ⟨k,rfl,S,a9,s1,g1⟩;have D1:=aB ((Dn.refl HS.out).next s1 g1);clear HN s1 g1
  by_cases Y:k%h=0
  ·have qm:(k%h != 0)=false:=(by simpa using Y);have c9:0<=k / h:=Int.ediv_nonneg S (by omega);have c5:k / h<=255:=Int.le_trans (Int.ediv_le_self h S) a9;clear Y;go_wp2
   go_loopw [6,7] (fun o t W=>∃ (m:Nat) (Γ1:Gm),m<=3/\t=.int .i64 m/\HV Γ1 .cm o m/\Dn F v zs Γ w Γ1 W) (fun _ t _=>3 - (intOf t).toNat)
   case atStart=>exact ⟨0,Γ,by omega,rfl,.inl ⟨rfl,rfl⟩,D1.out⟩
   case round=>
    obtain ⟨m,Γ1,c2,rfl,G,U⟩:=hrel
    by_cases c1:(m:Int)<=k / h%3
    ·have J:=aB (aAm U.st HZ.out);have HV:=aB G;have HD:=aB U;obtain ⟨oa,oc,E,_⟩:=G.sl;subst E;clear G U
     go_wp2_with fail
     refine J.out.mono ?_;rintro e w2 ⟨u,tv,rfl,X,Γ2,N,D2⟩
     obtain ⟨o',w3,Γ3,A,D,_,O⟩:=(HD.out.trans D2).app (k:=.cm) (HV.out.mono D2.le) #[u,tv] rfl (fun j x y=>by
      match j,y with
      | 0,y=>simp at y;subst y;exact X
      | 1,y=>simp at y;subst y;exact N
      | j+2,y=>simp at y) (by omega)
     replace A:(Builtin.append_ #[24,24] 24 #[.slice oa m oc,.slice (some ⟨w2.heap.size,0,none⟩) 1 1]).run prog (w2.alloc (.cells #[u,tv] 128))=.ok o' w3:=A;have a5:=aB D;have b1:=aB O;obtain ⟨pa,pc,a6,_⟩:=D.sl;obtain ⟨bb,b2⟩:=X;obtain ⟨tn,_,M⟩:=N;obtain ⟨ta,tc,a8,_⟩:=M.sl;subst a6 b2 a8;clear D O D2 J M;go_wp2
     go_roundw
     case rel=>exact ⟨m+1,Γ3,by omega,by go_num,a5.out,b1.out⟩
     case measure=>simp [intOf];omega
    ·have HV:=aB G;have HD:=aB U;obtain ⟨oa,oc,E,_⟩:=G.sl;subst E;clear G U;go_wp2;go_ret;exact ⟨_,rfl,Γ1,⟨m,by omega,HV.out⟩,HD.out⟩
  ·have qm:(k%h != 0)=true:=(by simpa using Y);clear Y;go_wp2;go_ret;exact ⟨_,rfl,Γ,HW.nil _ _ _,D1.out⟩
 ·exact absurd trivial hp
theorem aAe {F:Nat} {v:Value} {zs:List Int} {Γ:Gm} {w:World} (hs:StD F v zs Γ w) (E:Zs zs) :
  Calls prog 103 #[.pointer (some ⟨F,0,none⟩)] w fun e w'=>∃ o,e=.returned o/\∃ Γ',HW Γ' .is 64 o/\Dn F v zs Γ w Γ' w':=by
 have HZ:=aB E;have HS:=aB hs;have HN:=aB (hs.next E);clear hs E
 go_enter func103,ntmps103
 go_wp2_with fail
 refine HN.out.mono ?_;rintro e w1 ⟨k,rfl,c6,c8,s1,Z⟩;have gA:=World.grownBy_alloc w1 (Obj.cells #[.string { data:=#[97] },.string { data:=#[98] },.string { data:=#[107,101,121] },.string { data:=#[36,120] },.string { data:=#[95] },.string { data:=#[97,49] },.string { data:=#[110,117,108,108] },.string { data:=#[97,32,98] },.string { data:=#[] },.string { data:=#[49,97] },.string { data:=#[195,169] },.string { data:=#[108,111,110,103,95,110,97,109,101,95,111,102,95,97,95,107,101,121] },.string { data:=#[73,110,102,105,110,105,116,121] }] 9) none;have M:=((Dn.refl HS.out).next s1 Z).K gA
 by_cases c1:240<k
 ·have HU:=aB (lM M.st HZ.out 5 (by omega) (by omega));have HD:=aB M;clear HN s1 Z gA M
  go_wp2_with fail
  refine HU.out.mono ?_;rintro e w2 ⟨o,rfl,Γ2,n,S,hn,D2⟩;have HV:=aB S;have U:=aB (HD.out.trans D2);obtain ⟨oa,oc,D,_⟩:=S.sl;subst D;clear HU S D2;go_wp2;go_ret;exact ⟨_,rfl,Γ2,⟨n,by omega,HV.out⟩,U.out⟩
 ·have y:=vI w1 aCU 9 (k%13).toNat (by simp [aCU];omega) #[.string { data:=#[97] },.string { data:=#[98] },.string { data:=#[107,101,121] },.string { data:=#[36,120] },.string { data:=#[95] },.string { data:=#[97,49] },.string { data:=#[110,117,108,108] },.string { data:=#[97,32,98] },.string { data:=#[] },.string { data:=#[49,97] },.string { data:=#[195,169] },.string { data:=#[108,111,110,103,95,110,97,109,101,95,111,102,95,97,95,107,101,121] },.string { data:=#[73,110,102,105,110,105,116,121] }] rfl;have h:=Wds.at (L:=aCU) (by decide) (k%13).toNat;have G:=aF3 (k%13).toNat (by omega);generalize aCU.getD (k%13).toNat []=t at y h G;obtain ⟨cap,w3,Γ3,N,a7,a4,D3,_,d0,J⟩:=M.conv t h.2 h.1;have Y:RdB w3.heap.size w3 (.slice (some ⟨w1.heap.size+1,0,none⟩) t.length cap) t:=(by simpa only [World.size_alloc] using J);have O:=aB (fK _ t w3 Y h.2 (by have:=h.1;omega));have c2:=uO t;simp only [World.size_alloc] at N;have b2:=aB D3;clear HN s1 Z gA M a7 a4 D3
  go_wp2_with fail
  refine O.out.mono ?_;rintro e w4 ⟨o,rfl,o4,g4⟩;obtain ⟨Γ4,A,_,D4⟩:=b2.out.own g4 o4 (fun z E=>by have:=List.all_eq_true.1 G z E;simpa using this);have b0:=aB A;have b1:=aB D4;obtain ⟨oa,oc,D,_⟩:=A.sl;subst D;have X:(eS t).1.length<=64:=(by have:=h.1;omega);clear O o4 g4 A D4;go_wp2;go_ret;exact ⟨_,rfl,Γ4,⟨_,X,b0.out⟩,b1.out⟩
section
variable {L H:Nat} {Γ:Gm} {w:World} {b q q':Nat} {x:HK × Nat × Nat}
theorem HV.re (J:Γ b=some (.ts q,1,0)) {k:HK} (E:k.ok=true) {v:Value} {n:Nat} (h:HV Γ k v n):HV (upd Γ b x) k v n:=by
 rcases h with h | ⟨c,m,s,e,y,G,A⟩
 ·exact .inl h
 ·refine .inr ⟨c,m,s,e,?_,G,A⟩;unfold upd;rw [if_neg]
  ·exact y
  ·intro D;rw [D,J] at y;cases y;cases E
theorem HW.re (E:Γ b=some (.ts q,1,0)) {k:HK} (A:k.ok=true) {v:Value} {n:Nat} (h:HW Γ k n v):HW (upd Γ b x) k n v:=by
 obtain ⟨m,y,D⟩:=h;exact ⟨m,y,D.re E A⟩
theorem Hc.re (y:Γ b=some (.ts q,1,0)):∀ {k:HK} {j:Nat} {u:Value},Hc L Γ k j u->Hc L (upd Γ b x) k j u
 | .bs,_,_,h=>h
 | .is,_,_,h=>h
 | .cm,0,_,h=>h
 | .cm,_+1,_,h=>HW.re y rfl h
 | .nd,0,_,h=>h
 | .nd,1,_,h=>HW.re y rfl h
 | .nd,2,_,h=>h
 | .nd,3,_,h=>HW.re y rfl h
 | .nd,4,_,h=>HW.re y rfl h
 | .nd,5,_,h=>HW.re y rfl h
 | .nd,6,_,h=>h
 | .nd,_+7,_,h=>HW.re y rfl h
 | .tr,0,_,h=>HW.re y rfl h
 | .tr,_+1,_,h=>HW.re y rfl h
 | .ts _,0,_,h=>HV.re y rfl h
 | .ts _,_+1,_,h=>HW.re y rfl h
theorem WT.re (h:WT L H Γ w) (J:Γ b=some (.ts q,1,0)) {u:Value} (hu:HV Γ .nd u q'):WT L H (upd Γ b (.ts q',1,0)) (w.setCell ⟨b,0,none⟩ u):=fun E k' m' s' D=>by
 by_cases e:E=b
 ·subst e;rw [bG] at D;cases D;obtain ⟨Y,A,O,G,M,X,N,Z⟩:=h E _ _ _ J;have a8:A.size=2:=M;refine ⟨Y,A.setIfInBounds 0 u,O,?_,by rw [Array.size_setIfInBounds];exact M,X,by simpa using N,fun i hi=>?_⟩
  ·rw [setCell_eq_setRow w E 0 A _ _ _ G];exact setRow_heap w E A _ _ _ G
  ·rw [Array.getElem?_setIfInBounds]
   by_cases e:0=i
   ·subst e;exact ⟨u,by rw [if_pos rfl,if_pos (by omega)],HV.re J rfl hu⟩
   ·rw [if_neg e];have a4:i=1:=(by simp only [HK.sz] at hi;omega);subst a4;obtain ⟨y,S,hy⟩:=Z 1 hi;exact ⟨y,S,HW.re J rfl (show HW Γ .cm L y from hy)⟩
 ·have U:Γ E=some (k',m',s'):=(by unfold upd at D;rwa [if_neg e] at D);obtain ⟨Y,A,O,G,M,X,N,Z⟩:=h E k' m' s' U;refine ⟨Y,A,O,by rw [heap_setCell_other w ⟨b,0,none⟩ E u e];exact G,M,X,N,fun j hj=>?_⟩;obtain ⟨y,S,hy⟩:=Z j hj;exact ⟨y,S,Hc.re J hy⟩
end
section
variable {F:Nat} {v:Value} {zs:List Int} {Γ Γ0:Gm} {w w0:World} {b q q':Nat}
theorem Dn.re (h:Dn F v zs Γ0 w0 Γ w) (D:Γ b=some (.ts q,1,0)) (G:Γ0 b=none) {u:Value} (E:HV Γ .nd u q'):Dn F v zs Γ0 w0 (upd Γ b (.ts q',1,0)) (w.setCell ⟨b,0,none⟩ u):=by
 have A:Below (F+1) w (w.setCell ⟨b,0,none⟩ u):=(Below.refl _ _).setCell (p:=⟨b,0,none⟩) (h.st.wt.lt D).1 u;refine ⟨h.st.turn (h.st.wt.re D E) A,fun c k m s y=>?_,h.bl.trans (StD.down A)⟩;obtain ⟨s',J,M⟩:=h.le c k m s y;refine ⟨s',J,?_⟩;unfold upd;rw [if_neg]
 ·exact M
 ·intro e;rw [e,G] at y;cases y
theorem Gle.none_of {Γ Γ':Gm} (h:Gle Γ Γ') {c:Nat} (A:Γ' c=none):Γ c=none:=by
 cases e:Γ c with
 | none=>rfl
 | some x=>
   obtain ⟨k,m,s⟩:=x;obtain ⟨s',_,y⟩:=h c k m s e;rw [A] at y;cases y
end
theorem yS (z:Int):IsN (.int .i64 (wrap64 z)):=⟨_,rfl,by unfold wrap64;omega,by unfold wrap64;omega⟩
structure Nd8 (L:Nat) (Γ:Gm) (u0 u1 u2 u3 u4 u5 u6 u7:Value):Prop where
 h0:IsN u0
 h1:HW Γ .cm L u1
 h2:aIL u2
 h3:HW Γ .is L u3
 h4:HW Γ .bs L u4
 h5:HW Γ .is L u5
 h6:IsN u6
 h7:HW Γ .cm L u7
theorem Nd8.mono {L:Nat} {Γ Γ':Gm} {u0 u1 u2 u3 u4 u5 u6 u7:Value} (h:Nd8 L Γ u0 u1 u2 u3 u4 u5 u6 u7) (g:Gle Γ Γ'):Nd8 L Γ' u0 u1 u2 u3 u4 u5 u6 u7:=
 ⟨h.h0,h.h1.mono g (Nat.le_refl _),h.h2,h.h3.mono g (Nat.le_refl _),h.h4.mono g (Nat.le_refl _),h.h5.mono g (Nat.le_refl _),h.h6,h.h7.mono g (Nat.le_refl _)⟩
theorem Nd8.hc {L:Nat} {Γ:Gm} {u0 u1 u2 u3 u4 u5 u6 u7:Value} (h:Nd8 L Γ u0 u1 u2 u3 u4 u5 u6 u7):∀ j,j<(#[u0,u1,u2,u3,u4,u5,u6,u7]:Array Value).size->∃ u,(#[u0,u1,u2,u3,u4,u5,u6,u7]:Array Value)[j]?=some u/\Hc L Γ .nd (j%HK.nd.sz) u:=fun j y=>by
 match j,y with
 | 0,_=>exact ⟨u0,rfl,h.h0⟩
 | 1,_=>exact ⟨u1,rfl,h.h1⟩
 | 2,_=>exact ⟨u2,rfl,h.h2⟩
 | 3,_=>exact ⟨u3,rfl,h.h3⟩
 | 4,_=>exact ⟨u4,rfl,h.h4⟩
 | 5,_=>exact ⟨u5,rfl,h.h5⟩
 | 6,_=>exact ⟨u6,rfl,h.h6⟩
 | 7,_=>exact ⟨u7,rfl,h.h7⟩
theorem HW.form {Γ:Gm} {k:HK} {L:Nat} {v:Value} (h:HW Γ k L v):∃ a n c,v=.slice a n c:=by
 obtain ⟨n,_,h⟩:=h;obtain ⟨a,c,e,_⟩:=h.sl;exact ⟨a,n,c,e⟩
theorem WT.eight {L H:Nat} {Γ:Gm} {w:World} (h:WT L H Γ w) {b m s:Nat} (hb:Γ b=some (.nd,m,s)) {i:Nat} (hi:i+s<m):∃ (z0:Int) (a1:Option Addr) (Z U:Nat) (b2:Bool) (a3:Option Addr) (J N:Nat) (M:Option Addr) (Y E:Nat) (a5:Option Addr) (O X:Nat) (z6:Int) (a7:Option Addr) (G S:Nat),
  (w.cell? ⟨b,i*8,none⟩=some (.int .i64 z0)/\w.cell? ⟨b,i*8+1,none⟩=some (.slice a1 Z U)/\w.cell? ⟨b,i*8+2,none⟩=some (.bool b2)/\w.cell? ⟨b,i*8+3,none⟩=some (.slice a3 J N)/\w.cell? ⟨b,i*8+4,none⟩=some (.slice M Y E)/\w.cell? ⟨b,i*8+5,none⟩=some (.slice a5 O X)/\w.cell? ⟨b,i*8+6,none⟩=some (.int .i64 z6)/\w.cell? ⟨b,i*8+7,none⟩=some (.slice a7 G S))/\
  Nd8 L Γ (.int .i64 z0) (.slice a1 Z U) (.bool b2) (.slice a3 J N) (.slice M Y E) (.slice a5 O X) (.int .i64 z6) (.slice a7 G S)/\∀ j,w.frozen? ⟨b,j,none⟩=false\/m*8<=j:=by
 have y:∀ j,j<8->∃ u,w.cell? ⟨b,i*8+j,none⟩=some u/\Hc L Γ .nd j u:=fun j hj=>by
  obtain ⟨u,e,hu,_⟩:=h.cell hb (j:=i*8+j) (by simp only [HK.sz];omega);rw [show HK.nd.sz=8 from rfl,show (i*8+j)%8=j by omega] at hu;exact ⟨u,e,hu⟩
 obtain ⟨_,e0,⟨k,rfl,hk⟩⟩:=y 0 (by omega);obtain ⟨lv,e1,h1⟩:=y 1 (by omega);obtain ⟨_,e2,⟨A,rfl⟩⟩:=y 2 (by omega);obtain ⟨kv,e3,h3⟩:=y 3 (by omega);obtain ⟨xv,e4,h4⟩:=y 4 (by omega);obtain ⟨uv,e5,h5⟩:=y 5 (by omega);obtain ⟨_,e6,⟨D,rfl,a9⟩⟩:=y 6 (by omega);obtain ⟨tv,e7,h7⟩:=y 7 (by omega);obtain ⟨a1,Z,U,rfl⟩:=HW.form (show HW Γ .cm L lv from h1);obtain ⟨a3,J,N,rfl⟩:=HW.form (show HW Γ .is L kv from h3);obtain ⟨M,Y,E,rfl⟩:=HW.form (show HW Γ .bs L xv from h4);obtain ⟨a5,O,X,rfl⟩:=HW.form (show HW Γ .is L uv from h5);obtain ⟨a7,G,S,rfl⟩:=HW.form (show HW Γ .cm L tv from h7);refine ⟨k,a1,Z,U,A,a3,J,N,M,Y,E,a5,O,X,D,a7,G,S,⟨e0,e1,e2,e3,e4,e5,e6,e7⟩,⟨⟨k,rfl,hk⟩,h1,⟨A,rfl⟩,h3,h4,h5,⟨D,rfl,a9⟩,h7⟩,fun j=>?_⟩
 by_cases hj:j<m*8
 ·exact .inl (h.bare hb (j:=j) hj).2
 ·exact .inr (by omega)
section
variable {F:Nat} {v:Value} {zs:List Int} {Γ Γ0:Gm} {w w0:World}
theorem Dn.apps {k:HK} {o x:Value} {n q:Nat} (h:Dn F v zs Γ0 w0 Γ w) (hv:HV Γ k o n) (S:HV Γ k x q) (hn:n+q<=100000) (O:k.ok=true:=by rfl) :
  ∃ E w' Γ',(Builtin.append_ #[k.sl,k.sl] k.sl #[o,x]).run prog w=.ok E w'/\HV Γ' k E (n+q)/\Gle Γ Γ'/\Dn F v zs Γ0 w0 Γ' w':=by
 have a5:=hv.sl
 by_cases N:q=0
 ·subst N;obtain ⟨i,z,M,hi,hz,hs,_⟩:=aFz k O;obtain ⟨a,c,X,G,_⟩:=hv.sl;refine ⟨o,w,Γ,?_,by simpa using hv,Gle.refl _,h⟩;obtain ⟨xa,xc,J,_⟩:=S.sl;subst X J;cases a<;>cases xa<;>simp [Builtin.append_,run_underlying M,sizeOf,typeInfo,hi,Builtin.lenOf,Builtin.firstCells,G,storeCells,loadCells,loadCellsFrom]
 ·rcases S with ⟨_,Z⟩ | ⟨b,m,s,rfl,hΓ,a6,b2⟩
  ·exact absurd Z N
  ·have a7:q*k.sz<=(m - s)*k.sz:=Nat.mul_le_mul_right _ (by omega)
   haveI:Inhabited Value:=⟨.bool false⟩
   obtain ⟨A,hl,y⟩:=lW (fun j (u:Value)=>w.cell? ⟨b,j,none⟩=some u/\Hc 64 Γ k (j%k.sz) u) (q*k.sz) (fun j D=>by
    obtain ⟨u,e,M,_⟩:=h.st.wt.cell hΓ (j:=j) (by omega);exact ⟨u,e,M⟩)
   obtain ⟨E,w',Γ',Y,e2,U,e4,e5⟩:=h.st.wt.app h.st.lt hv b 0 q m (by omega) A hl (fun j u D=>by rw [Nat.zero_add];exact (y j u D).1) (fun j u D=>(y j u D).2) (by omega) O;exact ⟨E,w',Γ',Y,e2,U,h.turn e4 U e5⟩
end
end Go.Proofs.YtmfehflibkokbaaGreatDoor
