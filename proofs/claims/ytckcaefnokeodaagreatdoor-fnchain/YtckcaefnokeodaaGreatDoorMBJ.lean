import Derived.Laws.BytesArg
import Derived.Laws.IdiomStrings
import Derived.Test.YtckcaefnokeodaaGreatDoorMBI
set_option maxHeartbeats 16000000
set_option maxRecDepth 100000
namespace Go.Proofs.YtckcaefnokeodaaGreatDoor
open Go.Proofs.Tryz Go.RowKit List World
section
theorem Ful.n {Gq:Gk} {k:KK} {a:Option Addr} {n c:Nat} {A:List El} (h:Ful Gq k (a,n,c) A):n=A.length:=by
 rcases h with ⟨h,rfl⟩ | ⟨b,m,h,_⟩<;>cases h<;>rfl
section
variable {F:Nat} {v:Value} {zs:List Int} {i:Nat} {Gq Gq1:Gk} {w w1:World}
theorem KD.app1 (h:KD F v zs Gq w i Gq1 w1) {k:KK} {a:Option Addr} {n c:Nat} {D:List El} (Y:Ful Gq1 k (a,n,c) D) (N:Lo w.heap.size (a,n,c)) (e:El) (E:Array Value) (ha:E=e.en.toArray) (hk:e.kd=k) (hb:n<=100000) :
  ∃ g m I,(Builtin.append_ #[k.sl,k.sl] k.sl #[.slice a n c,.slice (some ⟨w1.heap.size,0,none⟩) 1 1]).run prog (w1.alloc (.cells E k.ty))=.ok (.slice (some ⟨g,0,none⟩) (n+1) m) I/\KD F v zs Gq w i (dF Gq1 g (k,m,D++[e])) I/\Ful (dF Gq1 g (k,m,D++[e])) k (some ⟨g,0,none⟩,n+1,m) (D++[e])/\w.heap.size<=g/\(Gq1 g=none\/Gq1 g=some (k,m,D))/\w1.grownBy I (some g):=by
 have M:=Y.n;subst M ha;have A:=grownBy_alloc w1 (.cells e.en.toArray k.ty) none
 obtain ⟨g,m,I,S,h2,G,h4,h5,J⟩:=(h.K A).apps Y N w1.heap.size 0 1 [e] (by simp) (fun y Z=>by simp at Z;rw [Z];exact hk) (fun j u hj=>by
  rw [Nat.zero_add,cell_of_row _ w1.heap.size j _ _ _ (heap_alloc_new w1 _)];simpa [ens] using hj) (by simp;omega)
 rw [length_append] at S;refine ⟨g,m,I,S,h2,.inr ⟨g,m,by simp,dX _ _ _,h5⟩,h4,?_,?_⟩
 .rcases G with G | G
  .rw [G];exact .inl ((h.K A).st.mt.gone (by simp))
  .exact .inr G.1
 .exact ⟨J.os.trans A.os,J.tape.trans A.tape,J.output.trans A.output,Nat.le_trans A.size J.size,fun x O M=>(J.block x (Nat.lt_of_lt_of_le O A.size) M).trans (A.block x O (by simp))⟩
theorem KD.conv (h:KD F v zs Gq w i Gq1 w1) (A:List Int) (Y:Bys A) (hn:A.length<=1000000) :
  ∃ E I,(convert 9 22 (.string (strOfNums A))).run prog w1=.ok (.slice (some ⟨w1.heap.size,0,none⟩) A.length E) I/\KD F v zs Gq w i (dF Gq1 w1.heap.size (.bs,E,A.map .b)) I/\E<=maxLen/\w1.grownBy I none/\I.heap.size=w1.heap.size+1:=by
 have M:=run_bytes_of_string (P:=prog) w1 9 22 5 (strOfNums A) underlying9 underlying22 underlying5;rw [strOfNums_size] at M;have N:=grownCap_ge w1 A.length 0 5
 have S:(bytesRow (strOfNums A) (grownCap w1 A.length 0 5)).size=grownCap w1 A.length 0 5:=by
  simp only [bytesRow,Array.size_append,Array.size_replicate,strOfNums,ByteArray.size,map_toArray,size_toArray,length_map];omega
 have O:w1.grownBy w1.drew none:=⟨rfl,rfl,rfl,Nat.le_refl _,fun _ _ _=>rfl⟩
 have J:ens (A.map El.b)=A.map (Value.int .u8):=by
  clear hn Y M N S
  induction A with
  | nil=>rfl
  | cons z A ih=>simp only [ens,map_cons,flatMap_cons,El.en] at ih ⊢;rw [ih];rfl
 have hN:=(h.K O).new .bs (grownCap w1 A.length 0 5) (A.map .b) (bytesRow (strOfNums A) (grownCap w1 A.length 0 5)) ((bytesRow (strOfNums A) (grownCap w1 A.length 0 5)).size,(bytesRow (strOfNums A) (grownCap w1 A.length 0 5)).size+1) (by rw [S];simp [KK.sz]) (.inr rfl) (by simpa using N) (fun y Z=>by
  obtain ⟨z,_,rfl⟩:=mem_map.1 Z;rfl) (fun j u G=>by
  rw [J] at G;have D:j<A.length:=(by simpa using (List.getElem?_eq_some_iff.1 G).1);have hz:=Y _ (getElem_mem D);simp [D] at G;subst G;unfold bytesRow;rw [Array.getElem?_append_left (by simp [strOfNums,D])];simp [strOfNums,D];omega)
 exact ⟨_,_,M,hN,grownCap_le_maxLen _ _ _ _ (by unfold maxLen;omega),aA O gWA,by simp⟩
end
theorem KS.point {F:Nat} {v:Value} {zs:List Int} {i:Nat} {Gq:Gk} {w:World} (h:KS F v zs i Gq w) (E:Zk zs) (A:Bool):Calls prog 145 #[.pointer (some ⟨F,0,none⟩),.bool A] w fun e D=>e=.returned (.int .i64 (dp zs A i).1)/\KD F v zs Gq w (dp zs A i).2 Gq D:=by
 refine (aBH F v zs i A w h.rd h.tx E.by' E.ln h.le).mono ?_;rintro e D ⟨rfl,f,g⟩;exact ⟨rfl,⟨h.mt.grown g (fun x e=>by cases e;omega),f,aLL h.le,h.tx.beside g (fun x e=>by cases e;omega)⟩,fun _ _=>rfl,g,fun _ G=>h.mt.gone G,h.lt⟩
attribute [-go_sem] Builtin.append_
theorem zC {F:Nat} {v:Value} {zs:List Int} {i:Nat} {Gq:Gk} {w:World} (hs:KS F v zs i Gq w) (hz:Zk zs) (h:Int) (h1:1<=h) (c9:h<=12) :
  Calls prog 115 #[.pointer (some ⟨F,0,none⟩),.int .i64 h] w fun e w'=>∃ a n c,e=.returned (.slice a n c)/\∃ a3,JI (Ful a3) (a,n,c) (dus zs h i).1/\Lo w.heap.size (a,n,c)/\KD F v zs Gq w (dus zs h i).2 a3 w':=by
 have HZ:=aB hz;have c4:=jA hz.by' i;have HN:=aB (hs.next hz);have HP:Hid (dus zs h i=jV zs ((nxD zs i).1%h).toNat (nxD zs i).2):=rfl;generalize (nxD zs i).1=k at *;generalize (nxD zs i).2=j at *;obtain ⟨f0,d7⟩:=c4;have d2:(h==0)=false:=(by simp;omega);have a0:0<=k%h:=Int.emod_nonneg k (by omega);have Z:k%h<h:=Int.emod_lt_of_pos k (by omega);obtain ⟨n,hn⟩:∃ n:Nat,k%h=(n:Int):=⟨(k%h).toNat,by omega⟩;have f1:n<12:=(by omega);rw [hn] at HP;have c1:=aB hn;clear hs hz hn a0 Z
 go_enter func115,ntmps115
 go_wp2_with fail
 refine HN.out.mono ?_;rintro e w1 ⟨rfl,b1⟩;have b3:=aB b1;clear HN b1;go_wp2;rw [c1.out]
 go_loopw [6,7] (fun o t W=>∃ (m:Nat) (Gq1:Gk) (a:Option Addr) (c:Nat),m<=n/\t=.int .i64 m/\o=.slice a m c/\JI (Ful Gq1) (a,m,c) (jV zs m j).1/\Lo w.heap.size (a,m,c)/\KD F v zs Gq w (jV zs m j).2 Gq1 W)
  (fun _ t _=>n - (intOf t).toNat)
 case atStart=>exact ⟨0,Gq,none,0,Nat.zero_le _,rfl,rfl,.inl ⟨rfl,rfl⟩,Lo.nil _,b3.out⟩
 case round=>
  obtain ⟨m,Gq1,a,c,hm,rfl,rfl,hJ,O,hD⟩:=hrel;clear b3
  by_cases d3:m<n
  .have HS:Hid (jV zs (m+1) j=((jV zs m j).1++[(yY zs (jV zs m j).2).1],(yY zs (jV zs m j).2).2)):=rfl
   have HO:Hid (yY zs (jV zs m j).2=if (nxD zs (jV zs m j).2).1%5=0 then (55296+(nxD zs (jV zs m j).2).1*4,(nxD zs (jV zs m j).2).2) else if (nxD zs (jV zs m j).2).1%5=1 then (56320+(nxD zs (jV zs m j).2).1*4,(nxD zs (jV zs m j).2).2)
    else ((dp zs true (nxD zs (jV zs m j).2).2).1%65536,(dp zs true (nxD zs (jV zs m j).2).2).2)):=rfl
   have b0:=aB (hD.next HZ.out);have b8:=jA HZ.out.by' (jV zs m j).2;generalize yY zs (jV zs m j).2=x at *;generalize (nxD zs (jV zs m j).2).1=d at *;generalize (nxD zs (jV zs m j).2).2=j2 at *;generalize (jV zs m j).1=ys at *;generalize (jV zs m j).2=j1 at *;obtain ⟨d9,d6⟩:=b8;have HJ:=aB hJ;have HL:=aB O;clear hJ O hD
   go_wp2_with fail
   refine b0.out.mono ?_;rintro e w2 ⟨rfl,a7,_⟩;have G:=aB a7;clear b0 a7
   by_cases S:d%5=0
   .have q5:(d%5==0)=true:=(by simpa using S);have Y:=aB (HO.out.trans (if_pos S));obtain ⟨g,mc,w3,A,E,D,J,_⟩:=G.out.app1 (k:=.is) HJ.out HL.out (.i (55296+d*4)) #[.int .i64 (55296+d*4)] rfl rfl (by omega);replace A:(Builtin.append_ #[35,35] 35 #[.slice a m c,.slice (some ⟨w2.heap.size,0,none⟩) 1 1]).run prog (w2.alloc (.cells #[.int .i64 (55296+d*4)] 3))=.ok (.slice (some ⟨g,0,none⟩) (m+1) mc) w3:=A;have N:=aB E;have M:=aB D;clear E D S HO G;go_wp2
    go_roundw
    case rel=>exact ⟨m+1,_,_,_,by omega,by go_num,rfl,by rw [HS.out,Y.out];unfold JI;rw [map_append];exact M.out,fun b e=>by cases e;exact J,by rw [HS.out,Y.out];exact N.out⟩
    case measure=>simp [intOf];omega
   .have q5:(d%5==0)=false:=by simpa using S
    by_cases I:d%5=1
    .have c3:(d%5==1)=true:=(by simpa using I);have Y:=aB ((HO.out.trans (if_neg S)).trans (if_pos I));obtain ⟨g,mc,w3,A,E,D,J,_⟩:=G.out.app1 (k:=.is) HJ.out HL.out (.i (56320+d*4)) #[.int .i64 (56320+d*4)] rfl rfl (by omega);replace A:(Builtin.append_ #[35,35] 35 #[.slice a m c,.slice (some ⟨w2.heap.size,0,none⟩) 1 1]).run prog (w2.alloc (.cells #[.int .i64 (56320+d*4)] 3))=.ok (.slice (some ⟨g,0,none⟩) (m+1) mc) w3:=A;have N:=aB E;have M:=aB D;clear E D S I HO G;go_wp2
     go_roundw
     case rel=>exact ⟨m+1,_,_,_,by omega,by go_num,rfl,by rw [HS.out,Y.out];unfold JI;rw [map_append];exact M.out,fun b e=>by cases e;exact J,by rw [HS.out,Y.out];exact N.out⟩
     case measure=>simp [intOf];omega
    .have c3:(d%5==1)=false:=(by simpa using I);have Y:=aB ((HO.out.trans (if_neg S)).trans (if_neg I));have a5:=aB (G.out.st.point HZ.out true);have c0:0<=(dp zs true j2).1/\(dp zs true j2).1<=1114111:=aLN true _ (jA HZ.out.by' j2).1;generalize dp zs true j2=y at *;obtain ⟨d1,d0⟩:=c0;clear S I HO
     go_wp2_with fail
     refine a5.out.mono ?_;rintro e w4 ⟨rfl,b2⟩;obtain ⟨g,mc,w3,A,E,D,J,_⟩:=(G.out.trans b2).app1 (k:=.is) HJ.out HL.out (.i (y.1%65536)) #[.int .i64 (y.1%65536)] rfl rfl (by omega);replace A:(Builtin.append_ #[35,35] 35 #[.slice a m c,.slice (some ⟨w4.heap.size,0,none⟩) 1 1]).run prog (w4.alloc (.cells #[.int .i64 (y.1%65536)] 3))=.ok (.slice (some ⟨g,0,none⟩) (m+1) mc) w3:=A;have N:=aB E;have M:=aB D;clear E D G b2 a5;go_wp2
     go_roundw
     case rel=>exact ⟨m+1,_,_,_,by omega,by go_num,rfl,by rw [HS.out,Y.out];unfold JI;rw [map_append];exact M.out,fun b e=>by cases e;exact J,by rw [HS.out,Y.out];exact N.out⟩
     case measure=>simp [intOf];omega
  .have c2:m=n:=(by omega);subst c2;have HJ:=aB hJ;have HL:=aB O;have HD:=aB hD;clear hJ O hD;go_wp2;go_ret;rw [HP.out];exact ⟨_,_,_,rfl,Gq1,HJ.out,HL.out,HD.out⟩
end
section
theorem yH (W:World) (L:List (List Int)) (t:TypeId) (j:Nat) (D:j<L.length) (A:Array Value) (h:A=(L.map fun s=>Value.string (strOfNums s)).toArray) :
  (W.alloc (.cells A t)).cell? ⟨W.heap.size,j,none⟩=some (.string (strOfNums (L.getD j []))):=by
 rw [cell_of_row (W.alloc (.cells A t)) W.heap.size j A t (0,0) (heap_alloc_new W _),h];simp [D]
def WdK (L:List (List Int)):Bool:=L.all fun t=>decide (t.length<=64)&&t.all fun z=>decide (0<=z/\z<=255)
theorem WdK.at {L} (h:WdK L=true) (n):(L.getD n []).length<=64/\Bys (L.getD n []):=by
 by_cases A:n<L.length
 .have:=all_eq_true.1 h L[n] (getElem_mem A);simp only [Bool.and_eq_true,decide_eq_true_eq,all_eq_true] at this;rw [getD_eq_getElem?_getD,getElem?_eq_getElem A];exact this
 .rw [getD_eq_getElem?_getD,getElem?_eq_none (by omega)];exact ⟨by simp,fun z D=>by simp at D⟩
theorem wO (t):(uE t).length=t.length:=by simp [uE]
theorem aK5 {t:List Int} {n:Nat} (h:n<t.length):uE (t.take (n+1))++t.drop (n+1)=(uE (t.take n)++t.drop n).set n (if t[n]=10 then 46 else t[n]):=by
 have A:(uE (t.take n)).length=n:=(by rw [wO,length_take];omega);rw [drop_eq_getElem_cons h,set_append_right _ _ (by omega),A,Nat.sub_self,set_cons_zero,take_add_one,getElem?_eq_getElem h];unfold uE;rw [map_append];simp only [Option.toList_some,map_cons,map_nil,append_assoc,cons_append,nil_append]
theorem aLJ {t:List Int} {n:Nat} (h:n<t.length):(uE (t.take n)++t.drop n)[n]?=some t[n]:=by
 have A:(uE (t.take n)).length=n:=(by rw [wO,length_take];omega);rw [drop_eq_getElem_cons h,getElem?_append_right (by omega),A,Nat.sub_self];rfl
theorem MT.two {H Gq w} (h:MT H Gq w) {b:Nat} {x:Bool} {t:Sv} {m:Nat} (D:Gq b=some (.cm,m,[.c x t])):w.cell? ⟨b,0,none⟩=some (.bool x)/\w.cell? ⟨b,1,none⟩=some t.v/\w.frozen? ⟨b,0,none⟩=false/\w.frozen? ⟨b,1,none⟩=false:=by
 have A:=h.cell D (i:=0) (f:=0) (y:=.c x t) rfl (by decide);have E:=h.cell D (i:=0) (f:=1) (y:=.c x t) rfl (by decide);exact ⟨A.1,E.1,A.2,E.2⟩
theorem KD.put2 {F v zs i Gq Gq1 w w1} (h:KD F v zs Gq w i Gq1 w1) {b:Nat} {x x':Bool} {t t':Sv} {m:Nat} (D:Gq1 b=some (.cm,m,[.c x t])) (A:w.heap.size<=b) :
  KD F v zs Gq w i (dF (dF Gq1 b (.cm,m,[.c x' t])) b (.cm,m,[.c x' t'])) ((w1.setCell ⟨b,0,none⟩ (.bool x')).setCell ⟨b,1,none⟩ t'.v):=
 (h.set D A (q:=0) (f:=0) (y:=.c x t) (y':=.c x' t) (u:=.bool x') rfl (by decide) rfl rfl).set (dX _ _ _) A (q:=0) (f:=1) (y:=.c x' t) (y':=.c x' t') (u:=t'.v) rfl (by decide) rfl rfl
attribute [-go_sem] Builtin.append_
theorem aBD {F v zs i Gq w} (hs:KS F v zs i Gq w) (hz:Zk zs) :
  Calls prog 117 #[.pointer (some ⟨F,0,none⟩)] w fun e w'=>∃ x a n c,e=.returned (.agg #[.bool x,.slice a n c])/\∃ c5,(x=(aDF zs i).1.b/\JB (Ful c5) (a,n,c) (aDF zs i).1.t)/\KD F v zs Gq w (aDF zs i).2 c5 w':=by
 have f7:∀ (x:Bool) (w:World),(Op.unary .not (.bool x)).run prog w=.ok (.bool (!x)) w:=fun _ _=>rfl;have D0:KD F v zs Gq w i (dF Gq w.heap.size (.cm,1,[.c false aL])) (w.alloc (Obj.cells #[.bool false,.slice none 0 0] 96)):=(KD.refl hs).new1 (.c false aL) #[.bool false,.slice none 0 0] rfl;have HN:=aB (D0.next hz);have d2:=jA hz.by' i;have HP:Hid (aDF zs i=(aJj (nxD zs i).1,(nxD zs i).2)):=rfl;have hR:=dX Gq w.heap.size (.cm,1,[.c false aL]);generalize dF Gq w.heap.size (.cm,1,[.c false aL])=Gq1 at *;generalize (nxD zs i).1=k at *;generalize (nxD zs i).2=j at *;obtain ⟨h3,h0⟩:=d2;clear hs D0 hz
 go_enter func117,ntmps117
 go_wp2_with fail
 refine HN.out.mono ?_;rintro e w1 ⟨rfl,a7,_⟩;have Y:=yH w1 aDE 9 (k / 2%14).toNat (by simp [aDE];omega) #[.string { data:=#[] },.string { data:=#[32,99] },.string { data:=#[120,32,121,32] },.string { data:=#[42] },.string { data:=#[47] },.string { data:=#[195,169] },.string { data:=#[97,10,98] },.string { data:=#[10] },.string { data:=#[32,123,91] },.string { data:=#[42,32,47] },.string { data:=#[47,47] },.string { data:=#[97,10,32,32,98,10] },.string { data:=#[39] },.string { data:=#[42,42] }] rfl;have b2:=WdK.at (L:=aDE) (by decide) (k / 2%14).toNat;have HV:Hid (aJj k=if k%2=1 then ⟨true,aDE.getD (k / 2%14).toNat []⟩ else ⟨false,uE (aDE.getD (k / 2%14).toNat [])⟩):=rfl;generalize aDE.getD (k / 2%14).toNat []=t at Y b2 HV;have gB:=grownBy_alloc w1 (Obj.cells #[.string { data:=#[] },.string { data:=#[32,99] },.string { data:=#[120,32,121,32] },.string { data:=#[42] },.string { data:=#[47] },.string { data:=#[195,169] },.string { data:=#[97,10,98] },.string { data:=#[10] },.string { data:=#[32,123,91] },.string { data:=#[42,32,47] },.string { data:=#[47,47] },.string { data:=#[97,10,32,32,98,10] },.string { data:=#[39] },.string { data:=#[42,42] }] 9) none;obtain ⟨h,w3,a9,b6,c6,_,a3⟩:=(a7.K gB).conv t b2.2 (by omega)
 have b3:dF Gq1 (w1.alloc (Obj.cells #[.string { data:=#[] },.string { data:=#[32,99] },.string { data:=#[120,32,121,32] },.string { data:=#[42] },.string { data:=#[47] },.string { data:=#[195,169] },.string { data:=#[97,10,98] },.string { data:=#[10] },.string { data:=#[32,123,91] },.string { data:=#[42,32,47] },.string { data:=#[47,47] },.string { data:=#[97,10,32,32,98,10] },.string { data:=#[39] },.string { data:=#[42,42] }] 9)).heap.size (.bs,h,t.map .b) w.heap.size=some (.cm,1,[.c false aL]):=by
  rw [bQ (by have:=a7.gr.size;simp;omega)];exact hR
 have b4:=dX Gq1 (w1.alloc (Obj.cells #[.string { data:=#[] },.string { data:=#[32,99] },.string { data:=#[120,32,121,32] },.string { data:=#[42] },.string { data:=#[47] },.string { data:=#[195,169] },.string { data:=#[97,10,98] },.string { data:=#[10] },.string { data:=#[32,123,91] },.string { data:=#[42,32,47] },.string { data:=#[47,47] },.string { data:=#[97,10,32,32,98,10] },.string { data:=#[39] },.string { data:=#[42,42] }] 9)).heap.size (.bs,h,t.map .b);simp only [size_alloc] at a9 b6 b3 b4 a3;have h5:w.heap.size<=w1.heap.size:=a7.gr.size;generalize dF Gq1 (w1.heap.size+1) (.bs,h,t.map .b)=Gq3 at *;have c4:KD F v zs Gq w j (dF Gq3 w3.heap.size (.cm,1,[.c (k%2==1) (some ⟨w1.heap.size+1,0,none⟩,t.length,h)])) (w3.alloc (Obj.cells #[.bool (k%2==1),.slice (some ⟨w1.heap.size+1,0,none⟩) t.length h] 96)):=b6.new1 (.c (k%2==1) (some ⟨w1.heap.size+1,0,none⟩,t.length,h)) _ rfl;have O:=dX Gq3 w3.heap.size (.cm,1,[.c (k%2==1) (some ⟨w1.heap.size+1,0,none⟩,t.length,h)]);have Z:dF Gq3 w3.heap.size (.cm,1,[.c (k%2==1) (some ⟨w1.heap.size+1,0,none⟩,t.length,h)]) w.heap.size=some (.cm,1,[.c false aL]):=(by rw [bQ (by omega)];exact b3);have a1:dF Gq3 w3.heap.size (.cm,1,[.c (k%2==1) (some ⟨w1.heap.size+1,0,none⟩,t.length,h)]) (w1.heap.size+1)=some (.bs,h,t.map .b):=(by rw [bQ (by omega)];exact b4);generalize dF Gq3 w3.heap.size (.cm,1,[.c (k%2==1) (some ⟨w1.heap.size+1,0,none⟩,t.length,h)])=Gq4 at *;have N:=aB c4;have c3:=aB a3;clear HN a7 gB b6 c4 b3 b4 hR
 by_cases h2:k%2=1
 .have q2:(k%2==1)=true:=(by simpa using h2);have HC:=aB (HV.out.trans (if_pos h2));rw [q2] at N O;obtain ⟨r0,r1,f0,f1⟩:=(show MT (F+1) Gq4 (w3.alloc (Obj.cells #[.bool true,.slice (some ⟨w1.heap.size+1,0,none⟩) t.length h] 96)) from N.out.st.mt).two Z;have E:=aB Z;have G:=aB a1;clear h2 Z O a1 HV a3;go_wp2;refine bodyPost_ret (v:=.agg #[.bool true,.slice (some ⟨w1.heap.size+1,0,none⟩) t.length h]) (by simp [results,Tryz.results117,go_sem,r0,r1]) rfl ?_;rw [HP.out,HC.out];refine ⟨_,_,_,_,rfl,_,⟨rfl,.inr ⟨w1.heap.size+1,h,by simp,?_,c6⟩⟩,N.out.put2 (x':=true) (t':=(some ⟨w1.heap.size+1,0,none⟩,t.length,h)) E.out (Nat.le_refl _)⟩;rw [bQ (by omega),bQ (by omega)];exact G.out
 .have q2:(k%2==1)=false:=(by simpa using h2);have HC:=aB (HV.out.trans (if_neg h2));rw [q2] at N O;obtain ⟨W4,b5⟩:∃ W4,W4=w3.alloc (Obj.cells #[.bool false,.slice (some ⟨w1.heap.size+1,0,none⟩) t.length h] 96):=⟨_,rfl⟩;have a5:Hid (KD F v zs Gq w j Gq4 W4):=(by unfold Hid;rw [b5];exact N.out);have a6:=aB O;have E:=aB Z;have G:=aB a1;clear h2 Z O a1 HV N a3;go_wp2;rw [<- b5];have d3:=c3.out;clear b5 a9 Y c3;generalize w3.heap.size=Cb at *;generalize h6:w1.heap.size+1=Tb at *;generalize hR:w.heap.size=R at *;have b7:R≠Tb:=(by omega);have d0:Cb≠Tb:=(by omega);clear d3
  go_loopw [6] (fun i W=>∃ (n:Nat) (M:Gk),n<=t.length/\i=.int .i64 n/\M Tb=some (.bs,h,(uE (t.take n)++t.drop n).map .b)/\M Cb=some (.cm,1,[.c false (some ⟨Tb,0,none⟩,t.length,h)])/\M R=some (.cm,1,[.c false aL])/\KD F v zs Gq w j M W) (fun i _=>t.length - (intOf i).toNat)
  case atStart=>exact ⟨0,Gq4,Nat.zero_le _,rfl,by simpa [uE] using G.out,a6.out,E.out,a5.out⟩
  case round=>
   obtain ⟨n,M,hn,rfl,A,J,D,hD⟩:=hrel;obtain ⟨c0,c1,g6,g2⟩:=hD.st.mt.two J;obtain ⟨r0,r1,f0,f1⟩:=hD.st.mt.two D;simp only [Sv.v] at c1 r1;have g9:=b2.1
   by_cases b9:n<t.length
   .have hI:(n:Int)<(t.length:Int):=(by omega);have a2:((uE (t.take n)++t.drop n).map El.b)[n]?=some (.b t[n]):=(by rw [getElem?_map,aLJ b9];rfl);have hc:=hD.st.mt.cell A a2 (f:=0) (by decide);simp only [KK.sz,Nat.mul_one,Nat.add_zero] at hc;obtain ⟨e0,ef⟩:=hc;replace e0:wr.cell? ⟨Tb,n,none⟩=some (.int .u8 t[n]):=e0;have HS:=aB (aK5 b9)
    by_cases I:t[n]=10
    .have c2:=hD.set A (by omega) (q:=n) (f:=0) (y:=.b t[n]) (y':=.b 46) (u:=.int .u8 46) a2 (by decide) rfl rfl;simp only [KK.sz,Nat.mul_one,Nat.add_zero] at c2;have b0:=aB c2;rw [if_pos I] at HS;have b1:=aB J;have S:=aB D;generalize t[n]=z at *;have d1:(z==10)=true:=(by simpa using I);clear I hD c2 A J D a2 a5 G a6 E;go_wp2
     go_roundw
     case rel=>exact ⟨n+1,_,by omega,by go_num,by rw [dX,HS.out,map_set],by rw [bQ d0];exact b1.out,by rw [bQ b7];exact S.out,b0.out⟩
     case measure=>simp [intOf];omega
    .rw [if_neg I] at HS;have b0:=aB hD;have b8:=aB A;have b1:=aB J;have S:=aB D
     have f2:Hid ((uE (t.take n)++t.drop n).set n t[n]=uE (t.take n)++t.drop n):=by
      have:=aLJ b9;obtain ⟨h1,h2⟩:=List.getElem?_eq_some_iff.1 this;unfold Hid
      conv=>lhs;rw [<- h2]
      exact set_getElem_self h1
     generalize t[n]=z at *;have d1:(z==10)=false:=(by simpa using I);clear I hD A J D a2 a5 G a6 E;go_wp2
     go_roundw
     case rel=>exact ⟨n+1,M,by omega,by go_num,by rw [HS.out,f2.out];exact b8.out,b1.out,S.out,b0.out⟩
     case measure=>simp [intOf];omega
   .have d5:n=t.length:=(by omega);subst d5;have b8:=aB A;have S:=aB D;have HD:=aB hD;clear hD A J D a5 G a6 E;go_wp2;refine bodyPost_ret (v:=.agg #[.bool false,.slice (some ⟨Tb,0,none⟩) t.length h]) (by simp [results,Tryz.results117,go_sem,r0,r1]) rfl ?_;rw [HP.out,HC.out];refine ⟨_,_,_,_,rfl,_,⟨rfl,.inr ⟨Tb,h,by simp [wO],?_,c6⟩⟩,HD.out.put2 (x':=false) (t':=(some ⟨Tb,0,none⟩,t.length,h)) S.out (by omega)⟩;rw [bQ (Ne.symm b7),bQ (Ne.symm b7),b8.out];simp
end
section
def aEp:List (List Int):=[[97],[98],[107,101,121],[36,120],[95],[97,49],[110,117,108,108],[97,32,98],[],[49,97],[195,169],[108,111,110,103,95,110,97,109,101,95,111,102,95,97,95,107,101,121],[73,110,102,105,110,105,116,121]]
theorem aHz:∀ n:Nat,n<13->(eU (aEp.getD n [])).1=aHJ.getD n []:=by decide
section
variable {F:Nat} {v:Value} {zs:List Int} {i:Nat} {Gq Gq1:Gk} {w w1 w2:World}
theorem KD.own {o:Value} {D:List Int} (h:KD F v zs Gq w i Gq1 w1) (g:w1.grownBy w2 none) (ho:OwI w1.heap.size w2 o D):∃ a n c I,o=.slice a n c/\JI (Ful I) (a,n,c) D/\Lo w.heap.size (a,n,c)/\KD F v zs Gq w i I w2:=by
 rcases ho.2 with ⟨N,hn⟩ | ⟨c,E,O,N,Z,G,M,a0,Y,A⟩
 .have:D=[]:=by simpa using hn
  subst this;exact ⟨none,0,0,Gq1,N,.inl ⟨rfl,rfl⟩,Lo.nil _,h.K g⟩
 .have J:w.heap.size<=c:=Nat.le_trans h.gr.size Z
  have S:ens (D.map El.i)=D.map (Value.int .i64):=by
   clear A M N ho
   induction D with
   | nil=>rfl
   | cons z wl ih=>simp only [ens,map_cons,flatMap_cons,El.en] at ih ⊢;rw [ih];rfl
  have hM:MT (F+1) (dF Gq1 c (.is,E,D.map .i)) w2:=h.st.mt.put (by have:=h.lt;omega) (fun b _ hb=>g.block b hb (by simp)) ⟨O,(0,0),G,Y,by simpa using M,.inl rfl,fun y hy=>by
   obtain ⟨z,_,rfl⟩:=mem_map.1 hy;rfl,fun j u hj=>by
   rw [S] at hj;have a1:j<D.length:=(by simpa using (List.getElem?_eq_some_iff.1 hj).1);have:=congrArg (fun l=>l[j]?) A;simp only [Nat.mul_one] at this;rw [getElem?_take,if_pos a1,Array.getElem?_toList] at this;rw [this];exact hj⟩
  exact ⟨some ⟨c,0,none⟩,D.length,E,_,N,.inr ⟨c,E,by simp,dX _ _ _,a0⟩,fun a e=>by cases e;exact J,h.turn hM g (fun b e=>by cases e) (h.nw.upd J)⟩
end
theorem aDA {F:Nat} {v:Value} {zs:List Int} {i:Nat} {Gq:Gk} {w:World} (E:KS F v zs i Gq w) (D:Zk zs) :
  Calls prog 114 #[.pointer (some ⟨F,0,none⟩)] w fun e w'=>e=.returned (.string (strOfNums (aEa zs i).1))/\KD F v zs Gq w (aEa zs i).2 Gq w':=by
 have N:=grownBy_alloc w (Obj.cells #[.string { data:=#[48] },.string { data:=#[49] },.string { data:=#[45,49] },.string { data:=#[43,49] },.string { data:=#[49,50,46,53] },.string { data:=#[46,53] },.string { data:=#[53,46] },.string { data:=#[49,101,51] },.string { data:=#[49,69,43,51] },.string { data:=#[50,101,45,49,48] },.string { data:=#[48,120,49,70] },.string { data:=#[45,48,88,97,98] },.string { data:=#[73,110,102,105,110,105,116,121] },.string { data:=#[45,73,110,102,105,110,105,116,121] },.string { data:=#[43,78,97,78] },.string { data:=#[78,97,78] },.string { data:=#[48,46,48] },.string { data:=#[49,48] },.string { data:=#[45,46,53,101,49] },.string { data:=#[53,46,101,50] },.string { data:=#[48,101,48] },.string { data:=#[43,48,120,48] }] 9) none;have J:=aB (((KD.refl E).K N).next D);have h:=fun n Y=>yH w aBY 9 n Y #[.string { data:=#[48] },.string { data:=#[49] },.string { data:=#[45,49] },.string { data:=#[43,49] },.string { data:=#[49,50,46,53] },.string { data:=#[46,53] },.string { data:=#[53,46] },.string { data:=#[49,101,51] },.string { data:=#[49,69,43,51] },.string { data:=#[50,101,45,49,48] },.string { data:=#[48,120,49,70] },.string { data:=#[45,48,88,97,98] },.string { data:=#[73,110,102,105,110,105,116,121] },.string { data:=#[45,73,110,102,105,110,105,116,121] },.string { data:=#[43,78,97,78] },.string { data:=#[78,97,78] },.string { data:=#[48,46,48] },.string { data:=#[49,48] },.string { data:=#[45,46,53,101,49] },.string { data:=#[53,46,101,50] },.string { data:=#[48,101,48] },.string { data:=#[43,48,120,48] }] rfl;have O:F<w.heap.size:=E.lt;have G:=jA D.by' i;have Z:Hid (aEa zs i=(aBY.getD ((nxD zs i).1%22).toNat [],(nxD zs i).2)):=rfl;generalize (nxD zs i).1=k at *;generalize (nxD zs i).2=j at *;obtain ⟨a0,S⟩:=G;clear E D
 go_enter func114,ntmps114
 go_wp2_with fail
 refine J.out.mono ?_;rintro e w1 ⟨rfl,A,M⟩;have I:=aB A;have hc:=M.cell (h (k%22).toNat (by simp [aBY];omega)) (by simp;omega);generalize aBY.getD (k%22).toNat []=t at *;clear J A M h N;go_wp2;go_ret;rw [Z.out];exact ⟨rfl,I.out⟩
attribute [-go_sem] Builtin.append_
theorem kM {F:Nat} {v:Value} {zs:List Int} {i:Nat} {Gq:Gk} {w:World} (hs:KS F v zs i Gq w) (hz:Zk zs) (rare:Int) (h1:1<=rare) (h2:rare<=1000000) :
  Calls prog 74 #[.pointer (some ⟨F,0,none⟩),.int .i64 rare] w fun e w'=>∃ a n c,e=.returned (.slice a n c)/\∃ O,JC (Ful O) (a,n,c) (dU zs rare i).1/\KD F v zs Gq w (dU zs rare i).2 O w':=by
 have HZ:=aB hz;have HN:=aB (hs.next hz);have c6:=jA hz.by' i;have HP:Hid (dU zs rare i=if (nxD zs i).1%rare≠0 then ([],(nxD zs i).2) else kL zs ((nxD zs i).1 / rare%3+1).toNat (nxD zs i).2):=rfl;generalize (nxD zs i).1=k at *;generalize (nxD zs i).2=j at *;obtain ⟨a8,c4⟩:=c6;clear hs hz;have d4:(rare==0)=false:=by simp;omega
 go_enter func74,ntmps74
 go_wp2_with fail
 refine HN.out.mono ?_;rintro e w1 ⟨rfl,a3⟩;have J:=aB a3;clear HN a3
 by_cases N:k%rare=0
 .have qm:(k%rare != 0)=false:=(by simpa using N);have HQ:=aB (HP.out.trans (if_neg (fun h=>h N)));have d6:0<=k / rare:=Int.ediv_nonneg a8 (by omega);have d3:k / rare<=255:=Int.le_trans (Int.ediv_le_self rare a8) c4;obtain ⟨q,hq⟩:∃ q:Nat,k / rare%3=(q:Int):=⟨(k / rare%3).toNat,by omega⟩;have d2:q<3:=(by omega);rw [hq] at HQ;have S:=aB hq;clear N HP hq;go_wp2
  go_loopw [6,7] (fun o t W=>∃ (m:Nat) (Gq1:Gk) (a:Option Addr) (c:Nat) (D:List El),m<=q+1/\t=.int .i64 m/\o=.slice a m c/\Ful Gq1 .cm (a,m,c) D/\Js (J1 (Ful Gq1)) D (kL zs m j).1/\Lo w.heap.size (a,m,c)/\KD F v zs Gq w (kL zs m j).2 Gq1 W) (fun _ t _=>3 - (intOf t).toNat)
  case atStart=>exact ⟨0,Gq,none,0,[],Nat.zero_le _,rfl,rfl,.inl ⟨rfl,rfl⟩,trivial,Lo.nil _,J.out⟩
  case round=>
   obtain ⟨m,Gq1,a,c,D,f1,rfl,rfl,hF,hJ,M,Y⟩:=hrel;clear J
   by_cases d9:m<=q
   .have a1:(m:Int)<=k / rare%3:=(by rw [S.out];omega);have HS:Hid (kL zs (m+1) j=((kL zs m j).1++[(aDF zs (kL zs m j).2).1],(aDF zs (kL zs m j).2).2)):=rfl;have a7:=aB (aBD Y.st HZ.out);generalize aDF zs (kL zs m j).2=x at *;generalize (kL zs m j).1=cs at *;generalize (kL zs m j).2=j1 at *;have HF:=aB hF;have HJ:=aB hJ;have HL:=aB M;have HD:=aB Y;clear hF hJ M Y
    go_wp2_with fail
    refine a7.out.mono ?_;rintro e w2 ⟨bb,ta,Z,tc,rfl,a0,G,D2⟩;obtain ⟨g,mc,w3,E,a9,a2,b9,A,_⟩:=(HD.out.trans D2).app1 (k:=.cm) (D2.ex.ful HF.out) HL.out (.c bb (ta,Z,tc)) #[.bool bb,.slice ta Z tc] rfl rfl (by omega)
    have I:∀ v ys,Ful a0 .bs v ys->Ful (dF a0 g (.cm,mc,D++[.c bb (ta,Z,tc)])) .bs v ys:=fun v ys hf=>hf.beside (fun y e=>by
     rcases A with A | A<;>rw [A] at e<;>cases e)
    have c0:=aB (((HJ.out.mono (fun e c=>J1.mono D2.ex.rle.b)).mono (fun e c=>J1.mono I)).app (cs':=[x.1]) (els':=[.c bb (ta,Z,tc)]) ⟨⟨G.1,I _ _ G.2⟩,trivial⟩);replace E:(Builtin.append_ #[24,24] 24 #[.slice a m c,.slice (some ⟨w2.heap.size,0,none⟩) 1 1]).run prog (w2.alloc (.cells #[.bool bb,.slice ta Z tc] 96))=.ok (.slice (some ⟨g,0,none⟩) (m+1) mc) w3:=E;have c5:=aB a2;have c7:=aB a9;clear a2 a9 D2 a7 G I A;go_wp2
    go_roundw
    case rel=>exact ⟨m+1,_,_,_,_,by omega,by go_num,rfl,c5.out,by rw [HS.out];exact c0.out,fun b e=>by cases e;exact b9,by rw [HS.out];exact c7.out⟩
    case measure=>simp [intOf];omega
   .have a1:¬ (m:Int)<=k / rare%3:=(by rw [S.out];omega);have b6:m=q+1:=(by omega);subst b6;have HF:=aB hF;have HJ:=aB hJ;have HD:=aB Y;clear hF hJ M Y;go_wp2;go_ret;rw [HQ.out,show ((q:Int)+1).toNat=q+1 by omega];exact ⟨_,_,_,rfl,Gq1,⟨D,HF.out,HJ.out⟩,HD.out⟩
 .have qm:(k%rare != 0)=true:=(by simpa using N);have HQ:=aB (HP.out.trans (if_pos N));clear N HP;go_wp2;go_ret;rw [HQ.out];exact ⟨none,0,0,rfl,Gq,⟨[],.inl ⟨rfl,rfl⟩,trivial⟩,J.out⟩
theorem aHA {F:Nat} {v:Value} {zs:List Int} {i:Nat} {Gq:Gk} {w:World} (hs:KS F v zs i Gq w) (Y:Zk zs) :
  Calls prog 116 #[.pointer (some ⟨F,0,none⟩)] w fun e w'=>∃ a n c,e=.returned (.slice a n c)/\∃ I,JI (Ful I) (a,n,c) (aBC zs i).1/\KD F v zs Gq w (aBC zs i).2 I w':=by
 have HZ:=aB Y;have HN:=aB (hs.next Y);have b2:=jA Y.by' i;have Z:Hid (aBC zs i=if 240<(nxD zs i).1 then dus zs 5 (nxD zs i).2 else (aHJ.getD ((nxD zs i).1%13).toNat [],(nxD zs i).2)):=rfl;generalize (nxD zs i).1=k at *;generalize (nxD zs i).2=j at *;obtain ⟨c7,c5⟩:=b2;clear hs Y
 go_enter func116,ntmps116
 go_wp2_with fail
 refine HN.out.mono ?_;rintro e w1 ⟨rfl,E⟩;have gA:=grownBy_alloc w1 (Obj.cells #[.string { data:=#[97] },.string { data:=#[98] },.string { data:=#[107,101,121] },.string { data:=#[36,120] },.string { data:=#[95] },.string { data:=#[97,49] },.string { data:=#[110,117,108,108] },.string { data:=#[97,32,98] },.string { data:=#[] },.string { data:=#[49,97] },.string { data:=#[195,169] },.string { data:=#[108,111,110,103,95,110,97,109,101,95,111,102,95,97,95,107,101,121] },.string { data:=#[73,110,102,105,110,105,116,121] }] 9) none;have N:=E.K gA
 by_cases A:240<k
 .have HQ:=aB (Z.out.trans (if_pos A));have HU:=aB (zC N.st HZ.out 5 (by omega) (by omega));have HD:=aB N;clear HN E gA N Z
  go_wp2_with fail
  refine HU.out.mono ?_;rintro e w2 ⟨a,n,c,rfl,a6,hJ,_,D2⟩;have HJ:=aB hJ;have a4:=aB (HD.out.trans D2);clear HU hJ D2;go_wp2;go_ret;rw [HQ.out];exact ⟨_,_,_,rfl,a6,HJ.out,a4.out⟩
 .have HQ:=aB (Z.out.trans (if_neg A));have a3:=yH w1 aEp 9 (k%13).toNat (by simp [aEp];omega) #[.string { data:=#[97] },.string { data:=#[98] },.string { data:=#[107,101,121] },.string { data:=#[36,120] },.string { data:=#[95] },.string { data:=#[97,49] },.string { data:=#[110,117,108,108] },.string { data:=#[97,32,98] },.string { data:=#[] },.string { data:=#[49,97] },.string { data:=#[195,169] },.string { data:=#[108,111,110,103,95,110,97,109,101,95,111,102,95,97,95,107,101,121] },.string { data:=#[73,110,102,105,110,105,116,121] }] rfl;have D:=WdK.at (L:=aEp) (by decide) (k%13).toNat;have a2:=aB (aHz (k%13).toNat (by omega));generalize aEp.getD (k%13).toNat []=t at *;generalize aHJ.getD (k%13).toNat []=kw at *;obtain ⟨G,w3,J,h,a8,_,c2⟩:=N.conv t D.2 (by omega);simp only [size_alloc] at J h;have S:RdB w3.heap.size w3 (.slice (some ⟨w1.heap.size+1,0,none⟩) t.length G) t:=(JB.rd (v:=(some ⟨w1.heap.size+1,0,none⟩,t.length,G)) (Ful.pre (.inr ⟨_,G,by simp,dX _ _ _,a8⟩)) h.st.mt).1;have O:=aB (nM _ t w3 S D.2 (by have:=D.1;omega));have a0:=aB h;clear HN E gA N h S Z
  go_wp2_with fail
  refine O.out.mono ?_;rintro e w4 ⟨o,rfl,o4,g4⟩;obtain ⟨a,n,c,a9,rfl,M,_,D4⟩:=a0.out.own g4 o4;have a5:=aB M;have b3:=aB D4;clear O o4 g4 M D4;go_wp2;go_ret;rw [HQ.out,<- a2.out];exact ⟨_,_,_,rfl,a9,a5.out,b3.out⟩
end
section
variable {F:Nat} {v:Value} {zs:List Int} {i:Nat} {Gq Gq1:Gk} {w w1:World} {H:Nat}
theorem KD.set0 (h:KD F v zs Gq w i Gq1 w1) {b:Nat} {k:KK} {m:Nat} {y:El} {G:List El} (M:Gq1 b=some (k,m,y::G)) (E:w.heap.size<=b) (f:Nat) {A:El} {u:Value} (I:f<k.sz) (J:A.en=y.en.set f u) (D:A.kd=k):KD F v zs Gq w i (dF Gq1 b (k,m,A::G)) (w1.setCell ⟨b,f,none⟩ u):=by
 have:=h.set M E (q:=0) (f:=f) (y:=y) (y':=A) (u:=u) rfl I J D;rw [Nat.zero_mul,Nat.zero_add] at this;exact this
theorem MT.eight (h:MT H Gq w) {b m:Nat} {k n:Int} {l y x u t:Sv} {E:Bool} {G:List El} (I:Gq b=some (.nd,m,.d k l E y x u n t::G)) :
  (w.cell? ⟨b,0,none⟩=some (.int .i64 k)/\w.cell? ⟨b,1,none⟩=some l.v/\w.cell? ⟨b,2,none⟩=some (.bool E)/\w.cell? ⟨b,3,none⟩=some y.v/\w.cell? ⟨b,4,none⟩=some x.v/\w.cell? ⟨b,5,none⟩=some u.v/\w.cell? ⟨b,6,none⟩=some (.int .i64 n)/\w.cell? ⟨b,7,none⟩=some t.v)/\∀ f,f<8->w.frozen? ⟨b,f,none⟩=false:=by
 have A:=fun f (D:f<8)=>h.cell I (i:=0) (f:=f) (y:=.d k l E y x u n t) rfl D;refine ⟨⟨(A 0 (by decide)).1,(A 1 (by decide)).1,(A 2 (by decide)).1,(A 3 (by decide)).1,(A 4 (by decide)).1,(A 5 (by decide)).1,(A 6 (by decide)).1,(A 7 (by decide)).1⟩,fun f D=>?_⟩;have:=(A f D).2;rw [Nat.zero_mul,Nat.zero_add] at this;exact this
theorem MT.src (h:MT H Gq w) {b m:Nat} {k:KK} {A:List El} (J:Gq b=some (k,m,A)) (j:Nat) (u:Value) (D:(ens A)[j]?=some u):w.cell? ⟨b,0+j,none⟩=some u:=by
 obtain ⟨_,I,M,G,_,_,_,_,E⟩:=h b k m A J;rw [Nat.zero_add,cell_of_row w b j _ _ _ G];exact E j u D
theorem KD.appM (h:KD F v zs Gq w i Gq1 w1) {S sa:Option Addr} {O N sn sc:Nat} {ys A:List El} (Z:Ful Gq1 .nd (S,O,N) ys) (B:Nat) (hB:w.heap.size<=B) (b0:B<=w1.heap.size) (E:Lo B (S,O,N)) (hx:Ful Gq1 .nd (sa,sn,sc) A) (hb:O+sn<=100000) :
  ∃ a c w' D,(Builtin.append_ #[23,23] 23 #[.slice S O N,.slice sa sn sc]).run prog w1=.ok (.slice a (O+sn) c) w'/\KD F v zs Gq w i D w'/\Ful D .nd (a,O+sn,c) (ys++A)/\Lo B (a,O+sn,c)/\Rle (Ful Gq1) (Ful D)/\(∀ b,b<B->D b=Gq1 b)/\∀ b,b<B->w'.heap[b]?=w1.heap[b]?:=by
 have a6:=Z.n;have a5:=hx.n;subst a6 a5;rcases id hx with ⟨h0,rfl⟩ | ⟨b,m,h0,a2,c1⟩
 .cases h0;obtain ⟨i0,z,I,J,hz,hs,_⟩:=aDg .nd
  have M:ys.length<=N:=by
   rcases id Z with ⟨G,rfl⟩ | ⟨b,m,G,h2,_⟩
   .simp
   .cases G;exact (h.st.mt.kds h2).2
  refine ⟨S,N,w1,Gq1,?_,h,by simpa using Z,E,⟨fun _ _ h=>h,fun _ _ h=>h,fun _ _ h=>h⟩,fun _ _=>rfl,fun _ _=>rfl⟩;replace I:prog.underlying 23=some (.slice 49):=I;replace J:prog.info? 49=some i0:=J;cases S<;>simp [Builtin.append_,run_underlying I,sizeOf,typeInfo,J,Builtin.lenOf,Builtin.firstCells,M,storeCells,loadCells]
 .cases h0
  by_cases he:A.length=0
  .have:A=[]:=by simpa using he
   subst this;obtain ⟨i0,z,I,J,hz,hs,_⟩:=aDg .nd
   have M:ys.length<=N:=by
    rcases id Z with ⟨G,rfl⟩ | ⟨b,m,G,h2,_⟩
    .simp
    .cases G;exact (h.st.mt.kds h2).2
   refine ⟨S,N,w1,Gq1,?_,h,by simpa using Z,E,⟨fun _ _ h=>h,fun _ _ h=>h,fun _ _ h=>h⟩,fun _ _=>rfl,fun _ _=>rfl⟩;replace I:prog.underlying 23=some (.slice 49):=I;replace J:prog.info? 49=some i0:=J;cases S<;>simp [Builtin.append_,run_underlying I,sizeOf,typeInfo,J,Builtin.lenOf,Builtin.firstCells,M,storeCells,loadCells,loadCellsFrom]
  .obtain ⟨g,mc,w',G,h2,Y,h4,h5,h6⟩:=h.apps Z (E.mono hB) b 0 sc A (by omega) (h.st.mt.kds a2).1 (h.st.mt.src a2) (by omega);rw [length_append] at G
   have hg:B<=g:=by
    rcases Y with rfl | ⟨_,Y⟩
    .exact b0
    .exact E ⟨g,0,none⟩ (by rw [Y])
   refine ⟨_,_,w',_,G,h2,.inr ⟨g,mc,by simp,dX _ _ _,h5⟩,fun a e=>by cases e;exact hg,aFY (fun k y e=>?_),fun c hc=>bQ (by omega),fun x hx=>h6.block x (by omega) (by simp;omega)⟩;rcases Y with rfl | ⟨Y,_⟩
   .rw [h.st.mt.gone (Nat.le_refl _)] at e;cases e
   .rw [Y] at e;cases e;rfl
theorem KD.appN (h:KD F v zs Gq w i Gq1 w1) {M sa:Option Addr} {D G sn sc:Nat} {N els:List El} (O:Ful Gq1 .nd (M,D,G) N) (B:Nat) (hB:w.heap.size<=B) (I:B<=w1.heap.size) (J:Lo B (M,D,G)) (hx:Ful Gq1 .nd (sa,sn,sc) els) (hb:D+sn<=100000) :
  ∃ a c E A,(Builtin.append_ #[23,23] 23 #[.slice M D G,.slice sa sn sc]).run prog w1=.ok (.slice a (D+sn) c) E/\KD F v zs Gq w i A E/\Ful A .nd (a,D+sn,c) (N++els)/\Lo B (a,D+sn,c)/\Rle (Ful Gq1) (Ful A)/\∀ b,b<B->A b=Gq1 b:=by
 obtain ⟨a,c,E,A,h1,h2,h3,S,Y,Z,_⟩:=h.appM O B hB I J hx hb;exact ⟨a,c,E,A,h1,h2,h3,S,Y,Z⟩
end
section
variable {zs:List Int} {rare:Int} {i:Nat}
theorem wW {d:Nat} (h:(nxD zs i).1%16<3\/(d=0/\9<(nxD zs i).1%16)):bV zs rare d i=([{ eD with k:=(nxD zs i).1%16%3,L:=(dU zs rare (nxD zs i).2).1 }],(dU zs rare (nxD zs i).2).2):=by
 cases d<;>(rw [bV];simp only;rw [if_pos (by simpa using h)])
theorem aAr {d:Nat} (h:¬ ((nxD zs i).1%16<3\/(d=0/\9<(nxD zs i).1%16))) (A:(nxD zs i).1%16<6):bV zs rare d i=([{ eD with k:=3,L:=(dU zs rare (nxD zs i).2).1,X:=(aEa zs (dU zs rare (nxD zs i).2).2).1 }],(aEa zs (dU zs rare (nxD zs i).2).2).2):=by
 cases d<;>(rw [bV];simp only;rw [if_neg (by simpa using h),if_pos A])
theorem aBd {d:Nat} (h:¬ ((nxD zs i).1%16<3\/(d=0/\9<(nxD zs i).1%16))) (A:¬ (nxD zs i).1%16<6) (D:(nxD zs i).1%16<9\/d=0):bV zs rare d i=([{ eD with k:=4,L:=(dU zs rare (nxD zs i).2).1,U:=(dus zs 7 (dU zs rare (nxD zs i).2).2).1 }],(dus zs 7 (dU zs rare (nxD zs i).2).2).2):=by
 cases d with
 | zero=>rw [bV];simp only;rw [if_neg (by simpa using h),if_neg A]
 | succ d=>rw [bV];simp only;rw [if_neg (by simpa using h),if_neg A,if_pos (by omega)]
def aFG (zs:List Int) (rare:Int) (d:Nat) (obj:Bool) (p:Nat):List Nod × Nat × Nat:=cV zs (bV zs rare d) obj ((nxD zs p).1%5).toNat (nxD zs p).2
theorem aDP {d:Nat} (h:¬ (nxD zs i).1%16<6) (A:¬ (nxD zs i).1%16<9):bV zs rare (d+1) i =
  ({ eD with k:=5+(nxD zs i).1%16%2,L:=(dU zs rare (nxD zs i).2).1,C:=(aFG zs rare d (decide ((nxD zs i).1%16%2=1)) (dU zs rare (nxD zs i).2).2).2.1,tail:=(dU zs rare (aFG zs rare d (decide ((nxD zs i).1%16%2=1)) (dU zs rare (nxD zs i).2).2).2.2).1 }::(aFG zs rare d (decide ((nxD zs i).1%16%2=1)) (dU zs rare (nxD zs i).2).2).1,
   (dU zs rare (aFG zs rare d (decide ((nxD zs i).1%16%2=1)) (dU zs rare (nxD zs i).2).2).2.2).2):=by
 rw [bV];simp only;rw [if_neg (by omega),if_neg h,if_neg A];rfl
theorem aHq {f:Nat->List Nod × Nat} {h:Bool} {j:Nat} (D:(cV zs f h j i).2.1=j) (A:j<2\/(cV zs f h j i).2.2<zs.length):cV zs f h (j+1) i=((cV zs f h j i).1++(tV zs f h (cV zs f h j i).2.2).1,j+1,(tV zs f h (cV zs f h j i).2.2).2):=by
 rw [cV,if_pos ⟨D,A⟩]
theorem aEI {f:Nat->List Nod × Nat} {A:Bool} {j:Nat} (I:(cV zs f A j i).2.1=j) (G:¬ (j<2\/(cV zs f A j i).2.2<zs.length)):∀ M,j<=M->cV zs f A M i=cV zs f A j i:=by
 intro M
 induction M with
 | zero=>intro h;obtain rfl:j=0:=by omega
         rfl
 | succ M ih=>
   intro h
   by_cases e:j=M+1
   .rw [e]
   .have:=ih (by omega);rw [cV,this,if_neg];intro E;have D:j=M:=(by omega);subst D;exact G E.2
def nBk:Nat->Nat
 | 0=>1
 | d+1=>1+4*nBk d
theorem aGu:∀ d,1<=nBk d
 | 0=>Nat.le_refl _
 | d+1=>by unfold nBk;omega
theorem aL8:∀ d,d<=5->nBk d<=1365:=by decide
theorem aIW (key:List Int) (h:List Nod):(aIm key h).length=h.length:=by cases h<;>rfl
theorem aHG {f:Nat->List Nod × Nat} {h:Bool} (p:Nat):(tV zs f h p).1.length=(f p).1.length:=by
 unfold tV
 split
 .exact aIW _ _
 .rfl
theorem uL {f:Nat->List Nod × Nat} {obj:Bool} {L:Nat} (h:∀ p,(f p).1.length<=L):∀ m p,(cV zs f obj m p).1.length<=m*L
 | 0,p=>by simp [cV]
 | m+1,p=>by
   have ih:=uL (obj:=obj) h m p;rw [cV]
   split
   .simp only [length_append,aHG];have:=h (cV zs f obj m p).2.2;rw [Nat.add_mul];omega
   .rw [Nat.add_mul];omega
theorem lO:∀ (d p:Nat),1<=(bV zs rare d p).1.length/\(bV zs rare d p).1.length<=nBk d:=by
 intro d
 induction d with
 | zero=>
   intro p
   by_cases h:(nxD zs p).1%16<3\/(0=0/\9<(nxD zs p).1%16)
   .rw [wW h];exact ⟨Nat.le_refl _,Nat.le_refl _⟩
   .by_cases A:(nxD zs p).1%16<6
    .rw [aAr h A];exact ⟨Nat.le_refl _,Nat.le_refl _⟩
    .rw [aBd h A (.inr rfl)];exact ⟨Nat.le_refl _,Nat.le_refl _⟩
 | succ d ih=>
   intro p;have G:=aGu d
   by_cases h:(nxD zs p).1%16<3\/(d+1=0/\9<(nxD zs p).1%16)
   .rw [wW h];exact ⟨Nat.le_refl _,by simp [nBk]⟩
   .by_cases A:(nxD zs p).1%16<6
    .rw [aAr h A];exact ⟨Nat.le_refl _,by simp [nBk]⟩
    .by_cases D:(nxD zs p).1%16<9
     .rw [aBd h A (.inl D)];exact ⟨Nat.le_refl _,by simp [nBk]⟩
     .rw [aDP A D];simp only [length_cons];refine ⟨by omega,?_⟩;have:=uL (zs:=zs) (obj:=decide ((nxD zs p).1%16%2=1)) (fun q=>(ih q).2) ((nxD zs (dU zs rare (nxD zs p).2).2).1%5).toNat (nxD zs (dU zs rare (nxD zs p).2).2).2;have E:((nxD zs (dU zs rare (nxD zs p).2).2).1%5).toNat<=4:=(by omega);have I:=Nat.mul_le_mul_right (nBk d) E;unfold aFG nBk;omega
end
end Go.Proofs.YtckcaefnokeodaaGreatDoor
