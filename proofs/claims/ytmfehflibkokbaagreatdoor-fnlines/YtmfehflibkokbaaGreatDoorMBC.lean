import Derived.Test.YtmfehflibkokbaaGreatDoorMBB
set_option maxHeartbeats 16000000
set_option maxRecDepth 100000
namespace Go.Proofs.YtmfehflibkokbaaGreatDoor
open Go.Proofs.Tryz
open Go.RowKit
theorem iT {p:Int} (h:pR p=[]) (y:mH p=true):fF p=dH p:=by simp [fF,h,y]
theorem aDv {p:Int} (h:pR p=[]) (y:mH p=false):fF p=enc p:=by simp [fF,h,y]
theorem aDQ {p:Int} (a:p≠8) (b:p≠12) (c:p≠10) (d:p≠13) (e:p≠9) (f:p≠34) (g:p≠92):pR p=[]:=by simp [pR,a,b,c,d,e,f,g]
theorem vO (B:Nat) (v:Value) (ys:List Int) (p:Int) (w:World) (O:B<=w.heap.size) (hT:Tab w) (h:OwB B w v ys) (hn:ys.length<=8388000) (b3:0<=p) (c7:p<=1114111) :
  Calls prog 150 #[v,.int .i32 p] w fun e w'=>∃ v',e=.returned v'/\OwB B w' v' (ys++fF p)/\Below B w w':=by
 have c9:∀ (x:Bool) (w:World),(Op.unary .not (.bool x)).run prog w=.ok (.bool (!x)) w:=fun _ _=>rfl;obtain ⟨i0,hi,a4,U,Z⟩:=info_parts mF
 by_cases a6:p=34
 ·subst a6
  go_enter func150,ntmps150
  go_wp2_with (at_builtin;refine wpList_append_own _ rfl _ _ 22 rfl B 5 i0 (.int .u8 0) 1 1 underlying22 hi a4 U Z rfl (by decide) _ _ _ rfl (World.ownsRow.alloc h _) ⟨w.heap.size,0,none⟩ 2 2 [.int .u8 92,.int .u8 34] rfl rfl (vK _ _ _ _) (by intro u hu;simp at hu;rcases hu with rfl | rfl<;>rfl) (by unfold maxLen;omega) (by omega) (by simp;omega) ?_;intro v' N S X _)
  have R:=eK (xs:=[92,34]) _ O h S (by simp) X;go_wp2;go_ret;exact ⟨_,rfl,R.1,R.2⟩
 by_cases a7:p=92
 ·subst a7
  go_enter func150,ntmps150
  go_wp2_with (at_builtin;refine wpList_append_own _ rfl _ _ 22 rfl B 5 i0 (.int .u8 0) 1 1 underlying22 hi a4 U Z rfl (by decide) _ _ _ rfl (World.ownsRow.alloc h _) ⟨w.heap.size,0,none⟩ 2 2 [.int .u8 92,.int .u8 92] rfl rfl (vK _ _ _ _) (by intro u hu;simp at hu;rcases hu with rfl | rfl<;>rfl) (by unfold maxLen;omega) (by omega) (by simp;omega) ?_;intro v' N S X _)
  have R:=eK (xs:=[92,92]) _ O h S (by simp) X;go_wp2;go_ret;exact ⟨_,rfl,R.1,R.2⟩
 by_cases h8:p=8
 ·subst h8
  go_enter func150,ntmps150
  go_wp2_with (at_builtin;refine Lib.wpList_append_own_string _ rfl _ _ 22 9 rfl B 5 i0 underlying22 underlying9 hi a4 U Z _ _ _ rfl h { data:=#[92,98] } rfl (by unfold maxLen;simp [ByteArray.size];omega) (by simp [ByteArray.size];omega) O ?_;intro Y N A y _)
  have E:OwB B N Y (ys++[92,98]):=iE _ rfl _ (by simp [ByteArray.size]) A;have J:=cZ O h y;go_wp2;go_ret;exact ⟨_,rfl,E,J⟩
 by_cases a5:p=12
 ·subst a5
  go_enter func150,ntmps150
  go_wp2_with (at_builtin;refine Lib.wpList_append_own_string _ rfl _ _ 22 9 rfl B 5 i0 underlying22 underlying9 hi a4 U Z _ _ _ rfl h { data:=#[92,102] } rfl (by unfold maxLen;simp [ByteArray.size];omega) (by simp [ByteArray.size];omega) O ?_;intro Y N A y _)
  have E:OwB B N Y (ys++[92,102]):=iE _ rfl _ (by simp [ByteArray.size]) A;have J:=cZ O h y;go_wp2;go_ret;exact ⟨_,rfl,E,J⟩
 by_cases a9:p=10
 ·subst a9
  go_enter func150,ntmps150
  go_wp2_with (at_builtin;refine Lib.wpList_append_own_string _ rfl _ _ 22 9 rfl B 5 i0 underlying22 underlying9 hi a4 U Z _ _ _ rfl h { data:=#[92,110] } rfl (by unfold maxLen;simp [ByteArray.size];omega) (by simp [ByteArray.size];omega) O ?_;intro Y N A y _)
  have E:OwB B N Y (ys++[92,110]):=iE _ rfl _ (by simp [ByteArray.size]) A;have J:=cZ O h y;go_wp2;go_ret;exact ⟨_,rfl,E,J⟩
 by_cases a8:p=13
 ·subst a8
  go_enter func150,ntmps150
  go_wp2_with (at_builtin;refine Lib.wpList_append_own_string _ rfl _ _ 22 9 rfl B 5 i0 underlying22 underlying9 hi a4 U Z _ _ _ rfl h { data:=#[92,114] } rfl (by unfold maxLen;simp [ByteArray.size];omega) (by simp [ByteArray.size];omega) O ?_;intro Y N A y _)
  have E:OwB B N Y (ys++[92,114]):=iE _ rfl _ (by simp [ByteArray.size]) A;have J:=cZ O h y;go_wp2;go_ret;exact ⟨_,rfl,E,J⟩
 by_cases h9:p=9
 ·subst h9
  go_enter func150,ntmps150
  go_wp2_with (at_builtin;refine Lib.wpList_append_own_string _ rfl _ _ 22 9 rfl B 5 i0 underlying22 underlying9 hi a4 U Z _ _ _ rfl h { data:=#[92,116] } rfl (by unfold maxLen;simp [ByteArray.size];omega) (by simp [ByteArray.size];omega) O ?_;intro Y N A y _)
  have E:OwB B N Y (ys++[92,116]):=iE _ rfl _ (by simp [ByteArray.size]) A;have J:=cZ O h y;go_wp2;go_ret;exact ⟨_,rfl,E,J⟩
 by_cases M:p=127
 ·subst M;have HQ:Hid (fF 127=dH 127):=iT rfl rfl;have HX:=aB (iX B v ys 127 w O h (by omega) (by omega) (by omega))
  go_enter func150,ntmps150
  go_wp2_with fail
  refine HX.out.mono ?_;rintro e N ⟨Y,rfl,E,J⟩;rw [<- HQ.out] at E;go_wp2;go_ret;exact ⟨_,rfl,E,J⟩
 by_cases G:p=8232
 ·subst G;have HQ:Hid (fF 8232=dH 8232):=iT rfl rfl;have HX:=aB (iX B v ys 8232 w O h (by omega) (by omega) (by omega))
  go_enter func150,ntmps150
  go_wp2_with fail
  refine HX.out.mono ?_;rintro e N ⟨Y,rfl,E,J⟩;rw [<- HQ.out] at E;go_wp2;go_ret;exact ⟨_,rfl,E,J⟩
 by_cases D:p=8233
 ·subst D;have HQ:Hid (fF 8233=dH 8233):=iT rfl rfl;have HX:=aB (iX B v ys 8233 w O h (by omega) (by omega) (by omega))
  go_enter func150,ntmps150
  go_wp2_with fail
  refine HX.out.mono ?_;rintro e N ⟨Y,rfl,E,J⟩;rw [<- HQ.out] at E;go_wp2;go_ret;exact ⟨_,rfl,E,J⟩
 have d1:(p==34)=false:=(by simpa using a6);have d4:(p==92)=false:=(by simpa using a7);have g8:(p==8)=false:=(by simpa using h8);have d0:(p==12)=false:=(by simpa using a5);have d3:(p==10)=false:=(by simpa using a9);have d5:(p==13)=false:=(by simpa using a8);have g9:(p==9)=false:=(by simpa using h9);have c8:(p==127)=false:=(by simpa using M);have c4:(p==8232)=false:=(by simpa using G);have c6:(p==8233)=false:=(by simpa using D);have hs:=aDQ h8 a5 a9 a8 h9 a6 a7
 by_cases c1:p<32
 ·have HQ:Hid (fF p=dH p):=iT hs (by simp [mH,c1]);have HX:=aB (iX B v ys p w O h (by omega) b3 (by omega));clear a6 a7 h8 a5 a9 a8 h9 M G D hs
  go_enter func150,ntmps150
  go_wp2_with fail
  refine HX.out.mono ?_;rintro e N ⟨Y,rfl,E,J⟩;rw [<- HQ.out] at E;go_wp2;go_ret;exact ⟨_,rfl,E,J⟩
 ·cases ho:bW p
  ·have HQ:Hid (fF p=dH p):=iT hs (by simp [mH,ho]);have c5:p<65536:=(by simp [bW] at ho;omega);have HX:=aB (iX B v ys p w O h (by omega) b3 c5);have HF:=aB (eP p);rw [ho] at HF;clear a6 a7 h8 a5 a9 a8 h9 M G D hs
   go_enter func150,ntmps150
   go_wp2_with fail
   refine (HF.out _).mono ?_;rintro e N ⟨rfl,rfl⟩
   go_wp2_with fail
   refine HX.out.mono ?_;rintro e N ⟨Y,rfl,E,J⟩;rw [<- HQ.out] at E;go_wp2;go_ret;exact ⟨_,rfl,E,J⟩
  ·have HQ:Hid (fF p=enc p):=aDv hs (by simp [mH,ho,c1,M,G,D]);have HX:=aB (aAl B v ys p w O hT h (by omega) b3 c7);have HF:=aB (eP p);rw [ho] at HF;clear a6 a7 h8 a5 a9 a8 h9 M G D hs
   go_enter func150,ntmps150
   go_wp2_with fail
   refine (HF.out _).mono ?_;rintro e N ⟨rfl,rfl⟩
   go_wp2_with fail
   refine HX.out.mono ?_;rintro e N ⟨Y,rfl,E,J⟩;rw [<- HQ.out] at E;go_wp2;go_ret;exact ⟨_,rfl,E,J⟩
theorem eT (p:Int) (w:World):Calls prog 143 #[.int .i64 p] w fun e w'=>e=.returned (.bool (bZ p))/\w=w':=by
 by_cases A:0<=p
 ·by_cases y:p<65536
  ·have h:Hid (bZ p=true):=by simp [Hid,bZ,A,y]
   go_enter func143,ntmps143
   go_wp2;go_ret;exact ⟨by rw [h.out];rfl,rfl⟩
  ·have h:Hid (bZ p=false):=by simp [Hid,bZ];omega
   go_enter func143,ntmps143
   go_wp2;go_ret;exact ⟨by rw [h.out];rfl,rfl⟩
 ·have h:Hid (bZ p=false):=by simp [Hid,bZ];omega
  go_enter func143,ntmps143
  go_wp2;go_ret;exact ⟨by rw [h.out];rfl,rfl⟩
theorem uB (v:Value) (zs:List Int) (w:World) (hv:RdI w.heap.size w v zs) (hn:zs.length<=2097152) :
  Calls prog 149 #[v] w fun e w'=>∃ v',e=.returned (.tuple #[v',.int .i64 (fuR zs).2])/\OwI w.heap.size w' v' (fuR zs).1/\w.grownBy w' none:=by
 obtain ⟨i0,hi,b0,a8,a9⟩:=info_parts aBg;obtain ⟨a,cap,rfl,hr⟩:=hv;have d4:∀ (x:Bool) (w:World),(Op.unary .not (.bool x)).run prog w=.ok (.bool (!x)) w:=fun _ _=>rfl
 go_enter func149,ntmps149
 go_wp2_with (at_make;refine wpList_make_own _ rfl _ _ 33 rfl w.heap.size 3 i0 (.int .i64 0) 1 underlying33 hi b0 a8 _ _ _ zs.length rfl rfl (by omega) ?b2 ?b3 (Nat.le_refl _) ?_)
 case b2=>rw [a9];omega
 case b3=>unfold maxLen;omega
 intro w0 X S;go_wp2
 go_loopw [4,5] (fun v i wr=>∃ (k:Nat) (J:List Int),k<=zs.length/\i=.int .i64 k/\OwI w.heap.size wr v J/\J.length<=k/\J++fu (zs.drop k)=fu zs/\(zs.take k).all bZ=true/\Below w.heap.size w wr)
  (fun _ i _=>zs.length - (intOf i).toNat)
 case atStart=>exact ⟨0,[],Nat.zero_le _,rfl,X,Nat.le_refl _,by simp,rfl,aT S⟩
 case round=>
  obtain ⟨k,J,hk,rfl,y,d5,hx,M,E⟩:=hrel;clear X S
  by_cases a4:k<zs.length
  ·obtain ⟨b,off,rfl,hb,hc⟩:=hr (fun h=>by simp [h] at a4);have c8:wr.cell? ⟨b,off+k,none⟩=some (.int .i64 (zs[k]?.getD 0)):=(E.cell (by exact hb)).trans (hc k a4);have O:k+1<zs.length->wr.cell? ⟨b,off+(k+1),none⟩=some (.int .i64 (zs[k+1]?.getD 0)):=fun h=>(E.cell (by exact hb)).trans (hc (k+1) h);have h1:=aIT zs k a4;have h2:=aGX zs k;have a6:=lE zs bZ k a4 M;have N:∀ _:k+1<zs.length,(zs.take (k+1)).all bZ=true->bZ (zs[k+1]?.getD 0)=true->(zs.take (k+2)).all bZ=true:=fun h=>lE zs bZ (k+1) h;have a5:=xU zs bZ k a4;generalize zs[k]?.getD 0=p at c8 h1 h2 a6 a5;generalize zs[k+1]?.getD 0=x at O h1 h2 N;clear hc hr M
   by_cases Y:bZ p=true
   ·have U:=a6 Y;clear a6 a5
    by_cases G:lH p=true/\k+1<zs.length/\lP x=true
    ·obtain ⟨hp,Z,a7⟩:=G;have HE:Hid (J++[oU p x]++fu (zs.drop (k+2))=fu zs):=aDC hx (h2 Z hp a7);have c1:=N Z U (aL8 a7);have b9:=O Z;have c6:55296<=p/\p<56320:=(by simpa [lH] using hp);have c4:56320<=x/\x<=57343:=(by simpa [lP] using a7);obtain ⟨f7,f4⟩:=c6;obtain ⟨f8,f5⟩:=c4;clear h1 h2 O hx N U;have HP:Hid (oU p x=65536+(p - 55296)*1024+(x - 56320)):=rfl
     go_wp2_with (first
      | (go_at_call 143;refine (eT _ _).mono ?_;rintro e w' ⟨rfl,rfl⟩;rw [Y])
      | (go_at_call 167;refine (oM _ _).mono ?_;rintro e w' ⟨rfl,rfl⟩;rw [hp])
      | (go_at_call 168;refine (wQ _ _).mono ?_;rintro e w' ⟨rfl,rfl⟩;rw [a7])
      | (at_builtin;refine wpList_append_own _ rfl _ _ 33 rfl w.heap.size 3 i0 (.int .i64 0) 1 8 underlying33 hi b0 a8 a9 rfl (by decide) _ _ _ rfl (World.ownsRow.alloc y _) ⟨wr.heap.size,0,none⟩ 1 1 [.int .i64 (65536+(p - 55296)*1024+(x - 56320))] rfl rfl (cell_one_new _ _ _) (by intro u Y;simp at Y;subst Y;rfl) (by unfold maxLen;omega) (by omega) (by have:=E.size;simp;omega) ?_;intro v' w1 A D _))
     have R:=eK (xs:=[65536+(p - 55296)*1024+(x - 56320)]) _ E.size y A (by simp) D;clear A D y;go_wp2
     go_roundw
     case rel=>exact ⟨k+2,J++[65536+(p - 55296)*1024+(x - 56320)],by omega,by go_num,R.1,by simp;omega,by rw [<- HP.out];exact HE.out,c1,E.trans R.2⟩
     case measure=>simp [intOf];omega
    ·have HE:Hid (J++[p]++fu (zs.drop (k+1))=fu zs):=aCT hx (h1 G)
     have c0:lH p=false\/(lH p=true/\zs.length<=k+1)\/(lH p=true/\k+1<zs.length/\lP x=false):=by
      cases h:lH p
      ·exact .inl rfl
      ·by_cases h3:k+1<zs.length
       ·cases h4:lP x
        ·exact .inr (.inr ⟨rfl,h3,rfl⟩)
        ·exact absurd ⟨h,h3,h4⟩ G
       ·exact .inr (.inl ⟨rfl,by omega⟩)
     clear h1 h2 G hx N;rcases c0 with hw | ⟨hw,b6⟩ | ⟨hw,b6,c9⟩
     all_goals
      first
       | (have b9:=O b6;clear O)
       | clear O
      go_wp2_with (first
       | (go_at_call 143;refine (eT _ _).mono ?_;rintro e w' ⟨rfl,rfl⟩;rw [Y])
       | (go_at_call 167;refine (oM _ _).mono ?_;rintro e w' ⟨rfl,rfl⟩;rw [hw])
       | (go_at_call 168;refine (wQ _ _).mono ?_;rintro e w' ⟨rfl,rfl⟩;rw [c9])
       | (at_builtin;refine wpList_append_own _ rfl _ _ 33 rfl w.heap.size 3 i0 (.int .i64 0) 1 8 underlying33 hi b0 a8 a9 rfl (by decide) _ _ _ rfl (World.ownsRow.alloc y _) ⟨wr.heap.size,0,none⟩ 1 1 [.int .i64 p] rfl rfl (cell_one_new _ _ _) (by intro u Y;simp at Y;subst Y;rfl) (by unfold maxLen;omega) (by omega) (by have:=E.size;simp;omega) ?_;intro v' w1 A D _))
      have R:=eK (xs:=[p]) _ E.size y A (by simp) D;clear A D y;go_wp2
      go_roundw
      case rel=>exact ⟨k+1,J++[p],by omega,by go_num,R.1,by simp;omega,HE.out,U,E.trans R.2⟩
      case measure=>simp [intOf];omega
   ·have b7:bZ p=false:=(by simpa using Y);have HF:Hid (zs.all bZ=false):=a5 b7;clear a6 a5 h1 h2 N O Y
    go_wp2_with (go_at_call 143;refine (eT _ _).mono ?_;rintro e w' ⟨rfl,rfl⟩;rw [b7])
    go_ret2;exact ⟨_,by rw [rV _ HF.out];rfl,by rw [rV _ HF.out];exact World.ownsRow_nil _ _ _ _,aC E⟩
  ·have HF:Hid (zs.all bZ=true):=by
    unfold Hid;rw [List.take_of_length_le (by omega)] at M;exact M
   have hE:=aHE (by omega) hx;rw [hE] at y;clear hx hr hE M;go_wp2;go_ret2;exact ⟨_,by rw [aCe _ HF.out];rfl,by rw [aCe _ HF.out];exact y,aC E⟩
theorem aEb:∀ (n:Nat) (zs:List Int),zs.length<=n->zs.all bZ=true->∀ p∈fu zs,0<=p/\p<=1114111
 | _,[],_,_=>by simp [fu]
 | _,[u],_,h=>by
   simp [bZ] at h;simp [fu];omega
 | 0,_::_::_,hl,_=>by simp at hl
 | n+1,u::x::r,hl,h=>by
   simp only [List.all_cons,Bool.and_eq_true] at h;obtain ⟨D,G,A⟩:=h;have E:0<=u/\u<65536:=(by simpa [bZ] using D);intro p y;simp only [fu] at y
   split at y
   ·rename_i hh
    simp only [Bool.and_eq_true] at hh;have J:55296<=u/\u<56320:=(by simpa [lH] using hh.1);have M:56320<=x/\x<=57343:=(by simpa [lP] using hh.2);rcases List.mem_cons.1 y with rfl | y
    ·unfold oU;omega
    ·exact aEb n r (by simp at hl;omega) A p y
   ·rcases List.mem_cons.1 y with rfl | y
    ·omega
    ·exact aEb n (x::r) (by simp at hl ⊢;omega) (by simp only [List.all_cons,G,A];rfl) p y
theorem aH3 (y:List Int) (h:(fuR y).2=0):∀ p∈(fuR y).1,0<=p/\p<=1114111:=by
 unfold fuR at h ⊢
 split at h
 ·rename_i ha
  rw [if_pos ha];exact aEb _ y (Nat.le_refl _) ha
 ·simp at h
theorem aFu (w:World) (z:Int):OwB w.heap.size (w.alloc (.cells #[.int .u8 z] 5)) (.slice (some ⟨w.heap.size,0,none⟩) 1 1) [z]:=
 ⟨rfl,.inr ⟨w.heap.size,1,#[.int .u8 z],rfl,Nat.le_refl _,heap_alloc_new w _,Nat.le_refl _,by unfold maxLen;omega,rfl,rfl⟩⟩
theorem aAz (v:Value) (zs:List Int) (w:World) (hT:Tab w) (hv:RdI w.heap.size w v zs) (hn:zs.length<=1048576) :
  Calls prog 128 #[v] w fun e w'=>∃ v',e=.returned (.tuple #[v',.int .i64 (quR zs).2])/\OwB w.heap.size w' v' (quR zs).1/\w.grownBy w' none:=by
 obtain ⟨i0,hi,c1,b4,c0⟩:=info_parts mF;have HF:=aB (uB v zs w hv (by omega));have G:=aH3 zs;have a8:=aCz zs;have Z:Hid (quR zs=if (fuR zs).2=0 then (34::jC (fuR zs).1++[34],0) else ([],(fuR zs).2)):=rfl;obtain ⟨a,cap,rfl,_⟩:=hv;generalize fuR zs=f at HF G a8 Z;obtain ⟨ps,c⟩:=f;simp only at HF G a8 Z
 by_cases U:c=0
 ·subst U;have HB:=aB (G rfl);have HR:=aB (Z.out.trans (if_pos rfl));clear G Z
  go_enter func128,ntmps128
  go_wp2_with fail
  refine HF.out.mono ?_;rintro e O ⟨pv,rfl,o1,g1⟩;obtain ⟨a1,c5,b6,X⟩:=o1.rd;subst b6;have a7:=aB (hT.K g1);have b3:=aB g1;have b9:=g1.size;clear hT HF o1;go_wp2
  go_loopw [6,20] (fun v i wr=>∃ k:Nat,k<=ps.length/\i=.int .i64 k/\OwB O.heap.size wr v (34::jC (ps.take k))/\Below O.heap.size O wr)
   (fun _ i _=>ps.length - (intOf i).toNat)
  case atStart=>exact ⟨0,Nat.zero_le _,rfl,aFu O 34,iF O _⟩
  case round=>
   obtain ⟨k,hk,rfl,y,E⟩:=hrel;have N:=aAh (ps.take k);rw [List.length_take_of_le hk] at N;have b1:=E.size;have S:=a7.out.below E a7.out.pos
   by_cases J:k<ps.length
   ·obtain ⟨b,off,rfl,hb,U⟩:=X (fun h=>by simp [h] at J);have b7:wr.cell? ⟨b,off+k,none⟩=some (.int .i64 (ps[k]?.getD 0)):=(E.cell (by exact hb)).trans (U k J);have Y:=aBG ps k J;have M:=HB.out (ps[k]?.getD 0) (by simp [J]);generalize ps[k]?.getD 0=p at b7 Y M;have HE:Hid (34::jC (ps.take (k+1))=(34::jC (ps.take k))++fF p):=(by rw [Hid,Y];rfl);have HX:=aB (vO O.heap.size _ _ p wr b1 S y (by simp;omega) M.1 M.2);obtain ⟨c9,d5⟩:=M;have d0:IntKind.i32.wrap p=p:=mE p (by omega) (by omega);clear Y U X y S
    go_wp2_with fail
    refine HX.out.mono ?_;rintro e w2 ⟨v2,rfl,o2,b2⟩;rw [<- HE.out] at o2;go_wp2
    go_roundw
    case rel=>exact ⟨k+1,by omega,by go_num,o2,E.trans b2⟩
    case measure=>simp [intOf];omega
   ·have a9:k=ps.length:=(by omega);rw [a9,List.take_length] at y N;clear X a9 S;have a4:(34::jC ps).length=(jC ps).length+1:=by simp
    go_wp2_with (at_builtin;refine wpList_append_own _ rfl _ _ 22 rfl O.heap.size 5 i0 (.int .u8 0) 1 1 underlying22 hi c1 b4 c0 rfl (by decide) _ _ _ rfl (World.ownsRow.alloc y _) ⟨wr.heap.size,0,none⟩ 1 1 [.int .u8 34] rfl rfl (cell_one_new _ _ _) (by intro u hu;simp at hu;subst hu;rfl) (by rw [a4];unfold maxLen;omega) (by rw [a4];omega) (by simp;omega) ?_;intro v' w2 A D _)
    have R:=eK (xs:=[34]) _ b1 y A (by simp) D;clear A D y;go_wp2;go_ret2;refine ⟨_,by rw [HR.out];rfl,?_,?_⟩
    ·rw [HR.out];exact dP b9 R.1
    ·exact aA b3.out (aC (E.trans R.2))
 ·have HR:=aB (Z.out.trans (if_neg U));have d3:(c != 0)=true:=(by simpa using U);clear G Z U
  go_enter func128,ntmps128
  go_wp2_with fail
  refine HF.out.mono ?_;rintro e O ⟨pv,rfl,o1,g1⟩;go_wp2;go_ret2;exact ⟨_,by rw [HR.out];rfl,by rw [HR.out];exact World.ownsRow_nil _ _ _ _,g1⟩
end Go.Proofs.YtmfehflibkokbaaGreatDoor
namespace Go.Proofs.YtmfehflibkokbaaGreatDoor
open Go.Proofs.Tryz
open Go.RowKit
attribute [-go_sem] run_index_string
theorem aJ8 {p:Int} (h:bW p=false):cK p=0:=by simp [cK,h]
theorem aJS (w:World) (a b c d e f:Int):OwB w.heap.size (w.alloc (.cells #[.int .u8 a,.int .u8 b,.int .u8 c,.int .u8 d,.int .u8 e,.int .u8 f] 5)) (.slice (some ⟨w.heap.size,0,none⟩) 6 6) [a,b,c,d,e,f]:=
 ⟨rfl,.inr ⟨w.heap.size,6,_,rfl,Nat.le_refl _,heap_alloc_new w _,Nat.le_refl _,by unfold maxLen;omega,rfl,rfl⟩⟩
theorem qX (p:Int) (w:World) (D:0<=p) (A:p<65536) :
  Calls prog 108 #[.int .i64 p] w fun e w'=>∃ y,e=.returned y/\OwB w.heap.size w' y (dH p)/\Below w.heap.size w w':=by
 have h:=fun q=>aKk q;unfold aAE at h;have M:=fun W=>h (p / 4096) W;have G:=fun W=>h (p / 256) W;have J:=fun W=>h (p / 16) W;have E:=fun W=>h p W;clear h
 go_enter func108,ntmps108
 go_wp2_with fail
 go_region
 all_goals
  go_wp2;go_ret;exact ⟨_,rfl,aJS w _ _ _ _ _ _,⟨rfl,rfl,rfl,(iF w _).size,(iF w _).block⟩⟩
theorem qY {B:Nat} {w A:World} {v D:Value} {ys xs:List Int} (E:B<=w.heap.size) (hv:OwB B w v ys) (h:A.ownsRow B 5 1 D (ys.length+xs.length) (ys.map (Value.int .u8)++xs.map (Value.int .u8))) (y:w.grownBy A v.ownBlock) :
  OwB B A D (ys++xs)/\Below B w A:=by
 refine ⟨?_,cZ E hv y⟩;unfold OwB Ow;rw [List.length_append,List.map_append];exact h
theorem sG (v:Value) (zs:List Int) (w:World) (hv:RdI w.heap.size w v zs) (hn:zs.length<=1048576) :
  Calls prog 72 #[v] w fun e w'=>∃ v',e=.returned (.tuple #[v',.int .i64 (quR zs).2])/\OwB w.heap.size w' v' (quR zs).1/\w.grownBy w' none:=by
 obtain ⟨i0,hi,b0,a8,a9⟩:=info_parts mF;have HF:=aB (nD v zs w hv (by omega));have d4:=aH3 zs;have g4:=aCz zs;have HQ:Hid (quR zs=if (fuR zs).2=0 then (34::jC (fuR zs).1++[34],0) else ([],(fuR zs).2)):=rfl;obtain ⟨a,cap,rfl,_⟩:=hv;generalize fuR zs=f at HF d4 g4 HQ;obtain ⟨ps,c⟩:=f;simp only at HF d4 g4 HQ
 by_cases hc:c=0
 ·subst hc;have HB:=aB (d4 rfl);have HR:=aB (HQ.out.trans (if_pos rfl));clear d4 HQ
  go_enter func72,ntmps72
  go_wp2_with fail
  refine HF.out.mono ?_;rintro e w1 ⟨pv,rfl,X,g1⟩;obtain ⟨a1,Y,h7,f8⟩:=X.rd;subst h7;have i2:=aB g1;have i1:=g1.size;clear HF X;go_wp2
  go_loopw [6,7] (fun v i wr=>∃ k:Nat,k<=ps.length/\i=.int .i64 k/\OwB w1.heap.size wr v (34::jC (ps.take k))/\Below w1.heap.size w1 wr)
   (fun _ i _=>ps.length - (intOf i).toNat)
  case atStart=>exact ⟨0,Nat.zero_le _,rfl,aFu w1 34,iF w1 _⟩
  case round=>
   obtain ⟨k,hk,rfl,y,S⟩:=hrel;have d3:=aAh (ps.take k);rw [List.length_take_of_le hk] at d3;have d0:(34::jC (ps.take k)).length=(jC (ps.take k)).length+1:=(by simp);have U:=S.size
   by_cases d8:k<ps.length
   ·obtain ⟨b,off,rfl,hb,hc⟩:=f8 (fun h=>by simp [h] at d8);have i4:wr.cell? ⟨b,off+k,none⟩=some (.int .i64 (ps[k]?.getD 0)):=(S.cell (by exact hb)).trans (hc k d8);have f5:=aBG ps k d8;have h2:=HB.out (ps[k]?.getD 0) (by simp [d8]);generalize ps[k]?.getD 0=p at i4 f5 h2;have HE:Hid (34::jC (ps.take (k+1))=(34::jC (ps.take k))++fF p):=(by rw [Hid,f5];rfl);obtain ⟨c9,i9⟩:=h2;clear f5 hc f8;generalize i5:34::jC (ps.take k)=ys at y HE d0;have j4:ys.length<=6291457:=(by omega);clear i5 d0 d3
    by_cases h8:p=8
    ·subst h8
     go_wp2_with (at_builtin;refine Lib.wpList_append_own_string _ rfl _ _ 22 9 rfl w1.heap.size 5 i0 underlying22 underlying9 hi b0 a8 a9 _ _ _ rfl y { data:=#[92,98] } rfl (by unfold maxLen;simp [ByteArray.size];omega) (by simp [ByteArray.size];omega) U ?_;intro v2 w2 J A _)
     have o2:OwB w1.heap.size w2 v2 (ys++fF 8):=iE _ rfl _ (by simp [ByteArray.size];rfl) J;have b2:=cZ U y A;rw [<- HE.out] at o2;clear J A y;go_wp2
     go_roundw
     case rel=>exact ⟨k+1,by omega,by go_num,o2,S.trans b2⟩
     case measure=>simp [intOf];omega
    by_cases d7:p=12
    ·subst d7
     go_wp2_with (at_builtin;refine Lib.wpList_append_own_string _ rfl _ _ 22 9 rfl w1.heap.size 5 i0 underlying22 underlying9 hi b0 a8 a9 _ _ _ rfl y { data:=#[92,102] } rfl (by unfold maxLen;simp [ByteArray.size];omega) (by simp [ByteArray.size];omega) U ?_;intro v2 w2 J A _)
     have o2:OwB w1.heap.size w2 v2 (ys++fF 12):=iE _ rfl _ (by simp [ByteArray.size];rfl) J;have b2:=cZ U y A;rw [<- HE.out] at o2;clear J A y;go_wp2
     go_roundw
     case rel=>exact ⟨k+1,by omega,by go_num,o2,S.trans b2⟩
     case measure=>simp [intOf];omega
    by_cases d6:p=10
    ·subst d6
     go_wp2_with (at_builtin;refine Lib.wpList_append_own_string _ rfl _ _ 22 9 rfl w1.heap.size 5 i0 underlying22 underlying9 hi b0 a8 a9 _ _ _ rfl y { data:=#[92,110] } rfl (by unfold maxLen;simp [ByteArray.size];omega) (by simp [ByteArray.size];omega) U ?_;intro v2 w2 J A _)
     have o2:OwB w1.heap.size w2 v2 (ys++fF 10):=iE _ rfl _ (by simp [ByteArray.size];rfl) J;have b2:=cZ U y A;rw [<- HE.out] at o2;clear J A y;go_wp2
     go_roundw
     case rel=>exact ⟨k+1,by omega,by go_num,o2,S.trans b2⟩
     case measure=>simp [intOf];omega
    by_cases d5:p=13
    ·subst d5
     go_wp2_with (at_builtin;refine Lib.wpList_append_own_string _ rfl _ _ 22 9 rfl w1.heap.size 5 i0 underlying22 underlying9 hi b0 a8 a9 _ _ _ rfl y { data:=#[92,114] } rfl (by unfold maxLen;simp [ByteArray.size];omega) (by simp [ByteArray.size];omega) U ?_;intro v2 w2 J A _)
     have o2:OwB w1.heap.size w2 v2 (ys++fF 13):=iE _ rfl _ (by simp [ByteArray.size];rfl) J;have b2:=cZ U y A;rw [<- HE.out] at o2;clear J A y;go_wp2
     go_roundw
     case rel=>exact ⟨k+1,by omega,by go_num,o2,S.trans b2⟩
     case measure=>simp [intOf];omega
    by_cases h9:p=9
    ·subst h9
     go_wp2_with (at_builtin;refine Lib.wpList_append_own_string _ rfl _ _ 22 9 rfl w1.heap.size 5 i0 underlying22 underlying9 hi b0 a8 a9 _ _ _ rfl y { data:=#[92,116] } rfl (by unfold maxLen;simp [ByteArray.size];omega) (by simp [ByteArray.size];omega) U ?_;intro v2 w2 J A _)
     have o2:OwB w1.heap.size w2 v2 (ys++fF 9):=iE _ rfl _ (by simp [ByteArray.size];rfl) J;have b2:=cZ U y A;rw [<- HE.out] at o2;clear J A y;go_wp2
     go_roundw
     case rel=>exact ⟨k+1,by omega,by go_num,o2,S.trans b2⟩
     case measure=>simp [intOf];omega
    by_cases f3:p=34
    ·subst f3
     go_wp2_with (at_builtin;refine Lib.wpList_append_own_string _ rfl _ _ 22 9 rfl w1.heap.size 5 i0 underlying22 underlying9 hi b0 a8 a9 _ _ _ rfl y { data:=#[92,34] } rfl (by unfold maxLen;simp [ByteArray.size];omega) (by simp [ByteArray.size];omega) U ?_;intro v2 w2 J A _)
     have o2:OwB w1.heap.size w2 v2 (ys++fF 34):=iE _ rfl _ (by simp [ByteArray.size];rfl) J;have b2:=cZ U y A;rw [<- HE.out] at o2;clear J A y;go_wp2
     go_roundw
     case rel=>exact ⟨k+1,by omega,by go_num,o2,S.trans b2⟩
     case measure=>simp [intOf];omega
    by_cases d9:p=92
    ·subst d9
     go_wp2_with (at_builtin;refine Lib.wpList_append_own_string _ rfl _ _ 22 9 rfl w1.heap.size 5 i0 underlying22 underlying9 hi b0 a8 a9 _ _ _ rfl y { data:=#[92,92] } rfl (by unfold maxLen;simp [ByteArray.size];omega) (by simp [ByteArray.size];omega) U ?_;intro v2 w2 J A _)
     have o2:OwB w1.heap.size w2 v2 (ys++fF 92):=iE _ rfl _ (by simp [ByteArray.size];rfl) J;have b2:=cZ U y A;rw [<- HE.out] at o2;clear J A y;go_wp2
     go_roundw
     case rel=>exact ⟨k+1,by omega,by go_num,o2,S.trans b2⟩
     case measure=>simp [intOf];omega
    have g8:(p==8)=false:=(by simpa using h8);have j8:(p==12)=false:=(by simpa using d7);have j2:(p==10)=false:=(by simpa using d6);have j9:(p==13)=false:=(by simpa using d5);have g9:(p==9)=false:=(by simpa using h9);have i7:(p==34)=false:=(by simpa using f3);have j3:(p==92)=false:=(by simpa using d9);have hs:=aDQ h8 d7 d6 d5 h9 f3 d9;clear h8 d7 d6 d5 h9 f3 d9;have c0:=aB (mJ p)
    by_cases g7:p<32
    ·have HQ:Hid (fF p=dH p):=iT hs (by simp [mH,g7]);have HX:=aB (qX p wr c9 (by omega));clear hs c0
     go_wp2_with fail
     refine HX.out.mono ?_;rintro e w2 ⟨t1,rfl,X,b1⟩;have D:OwB w1.heap.size w2 u6 ys:=Ow.later y (aC b1);have M:=S.trans (b1.mono U)
     have b4:∃ g cap,∃ t',t'=Value.slice (some ⟨g,0,none⟩) (dH p).length cap/\t'=t1:=by
      rcases X.2 with ⟨_,h⟩ | ⟨g,cap,d1,h,_⟩
      ·exfalso;have e:=(rfl:(dH p).length=6);first | omega | (simp [dH] at h)
      ·exact ⟨g,cap,_,rfl,h.symm⟩
     obtain ⟨g,Y,t',O,N⟩:=b4;rw [<- N] at X;rw [<- N,O];rw [O] at X;have a4:=World.ownsRow.cells X (g:=g) rfl;have Z:=M.size;have c7:(dH p).length<=6:=Nat.le_of_eq rfl;clear N O y S b1
     go_wp2_with (at_builtin;refine wpList_append_own _ rfl _ _ 22 rfl w1.heap.size 5 i0 (.int .u8 0) 1 1 underlying22 hi b0 a8 a9 rfl (by decide) _ _ _ rfl D ⟨g,0,none⟩ (dH p).length Y ((dH p).map (Value.int .u8)) rfl (by simp) a4 (ints_oneCell _ _) (by unfold maxLen;omega) (by omega) Z ?_;intro v' w3 E G _)
     have R:=qY Z D E G;rw [<- HQ.out,<- HE.out] at R;clear E G D a4 X;go_wp2
     go_roundw
     case rel=>exact ⟨k+1,by omega,by go_num,R.1,M.trans R.2⟩
     case measure=>simp [intOf];omega
    by_cases b7:p=127
    ·have HQ:Hid (fF p=dH p):=iT hs (by simp [mH,b7]);have h0:(p==127)=true:=(by simp [b7]);have HX:=aB (qX p wr c9 (by omega));clear hs c0 b7
     go_wp2_with fail
     refine HX.out.mono ?_;rintro e w2 ⟨t1,rfl,X,b1⟩;have D:OwB w1.heap.size w2 u6 ys:=Ow.later y (aC b1);have M:=S.trans (b1.mono U)
     have b4:∃ g cap,∃ t',t'=Value.slice (some ⟨g,0,none⟩) (dH p).length cap/\t'=t1:=by
      rcases X.2 with ⟨_,h⟩ | ⟨g,cap,d1,h,_⟩
      ·exfalso;have e:=(rfl:(dH p).length=6);first | omega | (simp [dH] at h)
      ·exact ⟨g,cap,_,rfl,h.symm⟩
     obtain ⟨g,Y,t',O,N⟩:=b4;rw [<- N] at X;rw [<- N,O];rw [O] at X;have a4:=World.ownsRow.cells X (g:=g) rfl;have Z:=M.size;have c7:(dH p).length<=6:=Nat.le_of_eq rfl;clear N O y S b1
     go_wp2_with (at_builtin;refine wpList_append_own _ rfl _ _ 22 rfl w1.heap.size 5 i0 (.int .u8 0) 1 1 underlying22 hi b0 a8 a9 rfl (by decide) _ _ _ rfl D ⟨g,0,none⟩ (dH p).length Y ((dH p).map (Value.int .u8)) rfl (by simp) a4 (ints_oneCell _ _) (by unfold maxLen;omega) (by omega) Z ?_;intro v' w3 E G _)
     have R:=qY Z D E G;rw [<- HQ.out,<- HE.out] at R;clear E G D a4 X;go_wp2
     go_roundw
     case rel=>exact ⟨k+1,by omega,by go_num,R.1,M.trans R.2⟩
     case measure=>simp [intOf];omega
    have h0:(p==127)=false:=by simpa using b7
    by_cases a7:p=8232
    ·have HQ:Hid (fF p=dH p):=iT hs (by simp [mH,a7]);have f6:(p==8232)=true:=(by simp [a7]);have HX:=aB (qX p wr c9 (by omega));clear hs c0 a7
     go_wp2_with fail
     refine HX.out.mono ?_;rintro e w2 ⟨t1,rfl,X,b1⟩;have D:OwB w1.heap.size w2 u6 ys:=Ow.later y (aC b1);have M:=S.trans (b1.mono U)
     have b4:∃ g cap,∃ t',t'=Value.slice (some ⟨g,0,none⟩) (dH p).length cap/\t'=t1:=by
      rcases X.2 with ⟨_,h⟩ | ⟨g,cap,d1,h,_⟩
      ·exfalso;have e:=(rfl:(dH p).length=6);first | omega | (simp [dH] at h)
      ·exact ⟨g,cap,_,rfl,h.symm⟩
     obtain ⟨g,Y,t',O,N⟩:=b4;rw [<- N] at X;rw [<- N,O];rw [O] at X;have a4:=World.ownsRow.cells X (g:=g) rfl;have Z:=M.size;have c7:(dH p).length<=6:=Nat.le_of_eq rfl;clear N O y S b1
     go_wp2_with (at_builtin;refine wpList_append_own _ rfl _ _ 22 rfl w1.heap.size 5 i0 (.int .u8 0) 1 1 underlying22 hi b0 a8 a9 rfl (by decide) _ _ _ rfl D ⟨g,0,none⟩ (dH p).length Y ((dH p).map (Value.int .u8)) rfl (by simp) a4 (ints_oneCell _ _) (by unfold maxLen;omega) (by omega) Z ?_;intro v' w3 E G _)
     have R:=qY Z D E G;rw [<- HQ.out,<- HE.out] at R;clear E G D a4 X;go_wp2
     go_roundw
     case rel=>exact ⟨k+1,by omega,by go_num,R.1,M.trans R.2⟩
     case measure=>simp [intOf];omega
    have f6:(p==8232)=false:=by simpa using a7
    by_cases a6:p=8233
    ·have HQ:Hid (fF p=dH p):=iT hs (by simp [mH,a6]);have f9:(p==8233)=true:=(by simp [a6]);have HX:=aB (qX p wr c9 (by omega));clear hs c0 a6
     go_wp2_with fail
     refine HX.out.mono ?_;rintro e w2 ⟨t1,rfl,X,b1⟩;have D:OwB w1.heap.size w2 u6 ys:=Ow.later y (aC b1);have M:=S.trans (b1.mono U)
     have b4:∃ g cap,∃ t',t'=Value.slice (some ⟨g,0,none⟩) (dH p).length cap/\t'=t1:=by
      rcases X.2 with ⟨_,h⟩ | ⟨g,cap,d1,h,_⟩
      ·exfalso;have e:=(rfl:(dH p).length=6);first | omega | (simp [dH] at h)
      ·exact ⟨g,cap,_,rfl,h.symm⟩
     obtain ⟨g,Y,t',O,N⟩:=b4;rw [<- N] at X;rw [<- N,O];rw [O] at X;have a4:=World.ownsRow.cells X (g:=g) rfl;have Z:=M.size;have c7:(dH p).length<=6:=Nat.le_of_eq rfl;clear N O y S b1
     go_wp2_with (at_builtin;refine wpList_append_own _ rfl _ _ 22 rfl w1.heap.size 5 i0 (.int .u8 0) 1 1 underlying22 hi b0 a8 a9 rfl (by decide) _ _ _ rfl D ⟨g,0,none⟩ (dH p).length Y ((dH p).map (Value.int .u8)) rfl (by simp) a4 (ints_oneCell _ _) (by unfold maxLen;omega) (by omega) Z ?_;intro v' w3 E G _)
     have R:=qY Z D E G;rw [<- HQ.out,<- HE.out] at R;clear E G D a4 X;go_wp2
     go_roundw
     case rel=>exact ⟨k+1,by omega,by go_num,R.1,M.trans R.2⟩
     case measure=>simp [intOf];omega
    have f9:(p==8233)=false:=(by simpa using a6);cases ho:bW p
    ·have HQ:Hid (fF p=dH p):=iT hs (by simp [mH,ho]);have h1:p<65536:=(by simp [bW] at ho;omega);have HX:=aB (qX p wr c9 h1);have g2:cK p=0:=aJ8 ho;rw [g2] at c0;clear hs b7 a7 a6
     go_wp2_with fail
     refine (c0.out _).mono ?_;rintro e w9 ⟨rfl,rfl⟩
     go_wp2_with fail
     refine HX.out.mono ?_;rintro e w2 ⟨t1,rfl,X,b1⟩;have D:OwB w1.heap.size w2 u6 ys:=Ow.later y (aC b1);have M:=S.trans (b1.mono U)
     have b4:∃ g cap,∃ t',t'=Value.slice (some ⟨g,0,none⟩) (dH p).length cap/\t'=t1:=by
      rcases X.2 with ⟨_,h⟩ | ⟨g,cap,d1,h,_⟩
      ·exfalso;have e:=(rfl:(dH p).length=6);first | omega | (simp [dH] at h)
      ·exact ⟨g,cap,_,rfl,h.symm⟩
     obtain ⟨g,Y,t',O,N⟩:=b4;rw [<- N] at X;rw [<- N,O];rw [O] at X;have a4:=World.ownsRow.cells X (g:=g) rfl;have Z:=M.size;have c7:(dH p).length<=6:=Nat.le_of_eq rfl;clear N O y S b1
     go_wp2_with (at_builtin;refine wpList_append_own _ rfl _ _ 22 rfl w1.heap.size 5 i0 (.int .u8 0) 1 1 underlying22 hi b0 a8 a9 rfl (by decide) _ _ _ rfl D ⟨g,0,none⟩ (dH p).length Y ((dH p).map (Value.int .u8)) rfl (by simp) a4 (ints_oneCell _ _) (by unfold maxLen;omega) (by omega) Z ?_;intro v' w3 E G _)
     have R:=qY Z D E G;rw [<- HQ.out,<- HE.out] at R;clear E G D a4 X;go_wp2
     go_roundw
     case rel=>exact ⟨k+1,by omega,by go_num,R.1,M.trans R.2⟩
     case measure=>simp [intOf];omega
    ·have HQ:Hid (fF p=enc p):=aDv hs (by simp [mH,ho,g7,b7,a7,a6]);have HX:=aB (aCK p wr ho);have g2:(cK p==0)=false:=(by have:=aBR p ho;simp;omega);have i3:=xO p;clear hs b7 a7 a6
     go_wp2_with fail
     refine (c0.out _).mono ?_;rintro e w9 ⟨rfl,rfl⟩
     go_wp2_with fail
     refine HX.out.mono ?_;rintro e w2 ⟨t1,rfl,X,b1⟩;have D:OwB w1.heap.size w2 u6 ys:=Ow.later y (aC b1);have M:=S.trans (b1.mono U)
     have b4:∃ g cap,∃ t',t'=Value.slice (some ⟨g,0,none⟩) (enc p).length cap/\t'=t1:=by
      rcases X.2 with ⟨_,h⟩ | ⟨g,cap,d1,h,_⟩
      ·exfalso;have e:=i3;first | omega | (simp [dH] at h)
      ·exact ⟨g,cap,_,rfl,h.symm⟩
     obtain ⟨g,Y,t',O,N⟩:=b4;rw [<- N] at X;rw [<- N,O];rw [O] at X;have a4:=World.ownsRow.cells X (g:=g) rfl;have Z:=M.size;have c7:(enc p).length<=6:=(by omega);clear N O y S b1
     go_wp2_with (at_builtin;refine wpList_append_own _ rfl _ _ 22 rfl w1.heap.size 5 i0 (.int .u8 0) 1 1 underlying22 hi b0 a8 a9 rfl (by decide) _ _ _ rfl D ⟨g,0,none⟩ (enc p).length Y ((enc p).map (Value.int .u8)) rfl (by simp) a4 (ints_oneCell _ _) (by unfold maxLen;omega) (by omega) Z ?_;intro v' w3 E G _)
     have R:=qY Z D E G;rw [<- HQ.out,<- HE.out] at R;clear E G D a4 X;go_wp2
     go_roundw
     case rel=>exact ⟨k+1,by omega,by go_num,R.1,M.trans R.2⟩
     case measure=>simp [intOf];omega
   ·have g6:k=ps.length:=(by omega);rw [g6,List.take_length] at y d3 d0;clear f8 g6
    go_wp2_with (at_builtin;refine wpList_append_own _ rfl _ _ 22 rfl w1.heap.size 5 i0 (.int .u8 0) 1 1 underlying22 hi b0 a8 a9 rfl (by decide) _ _ _ rfl (World.ownsRow.alloc y _) ⟨wr.heap.size,0,none⟩ 1 1 [.int .u8 34] rfl rfl (cell_one_new _ _ _) (by intro u hu;simp at hu;subst hu;rfl) (by rw [d0];unfold maxLen;omega) (by rw [d0];omega) (by simp;omega) ?_;intro v' w2 E G _)
    have R:=eK (xs:=[34]) _ U y E (by simp) G;clear E G y;go_wp2;go_ret2;refine ⟨_,by rw [HR.out];rfl,?_,?_⟩
    ·rw [HR.out];exact dP i1 R.1
    ·exact aA i2.out (aC (S.trans R.2))
 ·have HR:=aB (HQ.out.trans (if_neg hc));have j1:(c != 0)=true:=(by simpa using hc);clear d4 HQ hc
  go_enter func72,ntmps72
  go_wp2_with fail
  refine HF.out.mono ?_;rintro e w1 ⟨pv,rfl,X,g1⟩;go_wp2;go_ret2;exact ⟨_,by rw [HR.out];rfl,by rw [HR.out];exact World.ownsRow_nil _ _ _ _,g1⟩
end Go.Proofs.YtmfehflibkokbaaGreatDoor
namespace Go.Proofs.YtmfehflibkokbaaGreatDoor
open Go.Proofs.Tryz
open Go.RowKit
theorem lL (p:Int) (w:World):Calls prog 138 #[.int .i64 p] w fun e w'=>e=.returned (.bool (gM p))/\w=w':=by
 by_cases h:gM p=true
 ·have y:Hid (gM p=true):=h;have A:(97<=p/\p<=122)\/(65<=p/\p<=90)\/p=95\/p=36:=(by simpa [gM] using h);clear h;rcases A with ⟨E,G⟩ | ⟨E,G⟩ | rfl | rfl
  ·have D:¬ p<=90:=(by omega);have M:65<=p:=by omega
   go_enter func138,ntmps138
   go_wp2;go_ret;exact ⟨by rw [y.out];rfl,rfl⟩
  ·have D:¬ 97<=p:=by omega
   go_enter func138,ntmps138
   go_wp2;go_ret;exact ⟨by rw [y.out];rfl,rfl⟩
  all_goals
   go_enter func138,ntmps138
   go_wp2;go_ret;exact ⟨rfl,rfl⟩
 ·have y:Hid (gM p=false):=(by simpa [Hid] using h);have A:¬ ((97<=p/\p<=122)\/(65<=p/\p<=90)\/p=95\/p=36):=(by simpa [gM] using h);clear h;have J:(p==95)=false:=(by simp;omega);have N:(p==36)=false:=by simp;omega
  by_cases E:65<=p
  ·have G:¬ p<=90:=by omega
   by_cases D:97<=p
   ·have M:¬ p<=122:=(by omega);clear A
    go_enter func138,ntmps138
    go_wp2;go_ret;exact ⟨by rw [y.out];rfl,rfl⟩
   ·clear A
    go_enter func138,ntmps138
    go_wp2;go_ret;exact ⟨by rw [y.out];rfl,rfl⟩
  ·have D:¬ 97<=p:=(by omega);clear A
   go_enter func138,ntmps138
   go_wp2;go_ret;exact ⟨by rw [y.out];rfl,rfl⟩
theorem zW (v:Value) (zs:List Int) (w:World) (hv:RdI w.heap.size w v zs) (hn:zs.length<=2097152) :
  Calls prog 110 #[v] w fun e w'=>e=.returned (.bool (nmR zs))/\w=w':=by
 obtain ⟨a,cap,rfl,Y⟩:=hv;have Z:∀ (x:Bool) (w:World),(Op.unary .not (.bool x)).run prog w=.ok (.bool (!x)) w:=fun _ _=>rfl
 go_enter func110,ntmps110
 go_wp2
 go_loopw [3] (fun i wr=>∃ k:Nat,k<=zs.length/\i=.int .i64 k/\sS zs k=true/\w=wr)
  (fun i _=>zs.length - (intOf i).toNat)
 case atStart=>exact ⟨0,Nat.zero_le _,rfl,rfl,rfl⟩
 case round=>
  obtain ⟨k,hk,rfl,D,rfl⟩:=hrel
  by_cases J:k<zs.length
  ·obtain ⟨b,off,rfl,hb,hc⟩:=Y (fun h=>by simp [h] at J);have S:=hc k J;have A:=aB (aBr zs k D);have y:=aB (aFS zs k J);generalize zs[k]?.getD 0=p at S A y;clear hc Y;cases G:gM p
   ·by_cases E:k=0
    ·have X:((k:Int)==0)=true:=(by simp [E]);have M:Hid (nmR zs=false):=y.out (by simp [uC,G,E]);have HK:=aB E;clear A y E
     go_wp2_with (first
      | (go_at_call 138;refine (lL _ _).mono ?_;rintro e w' ⟨rfl,rfl⟩;rw [G]))
     go_ret;exact ⟨by rw [M.out];rfl,rfl⟩
    ·have X:((k:Int)==0)=false:=(by simp;omega);cases O:aK p
     ·have M:Hid (nmR zs=false):=y.out (by simp [uC,G,O]);clear A y
      go_wp2_with (first
       | (go_at_call 138;refine (lL _ _).mono ?_;rintro e w' ⟨rfl,rfl⟩;rw [G])
       | (go_at_call 139;refine (dX _ _).mono ?_;rintro e w' ⟨rfl,rfl⟩;rw [O]))
      go_ret;exact ⟨by rw [M.out];rfl,rfl⟩
     ·have U:Hid (sS zs (k+1)=true):=A.out (by simp [uC,G,O,E]);clear A y
      go_wp2_with (first
       | (go_at_call 138;refine (lL _ _).mono ?_;rintro e w' ⟨rfl,rfl⟩;rw [G])
       | (go_at_call 139;refine (dX _ _).mono ?_;rintro e w' ⟨rfl,rfl⟩;rw [O]))
      go_roundw
      case rel=>exact ⟨k+1,by omega,by go_num,U.out,trivial⟩
      case measure=>simp [intOf];omega
   ·have U:Hid (sS zs (k+1)=true):=A.out (by simp [uC,G]);clear A y
    go_wp2_with (first
     | (go_at_call 138;refine (lL _ _).mono ?_;rintro e w' ⟨rfl,rfl⟩;rw [G]))
    go_roundw
    case rel=>exact ⟨k+1,by omega,by go_num,U.out,trivial⟩
    case measure=>simp [intOf];omega
  ·have N:k=zs.length:=(by omega);rw [N] at D;have M:Hid (nmR zs=decide (0<zs.length)):=aE4 zs D;have HG:Hid (decide ((0:Int)<(zs.length:Int))=decide (0<zs.length)):=(by simp [Hid]);clear Y D N;go_wp2;go_ret;exact ⟨by rw [M.out,<- HG.out];rfl,rfl⟩
end Go.Proofs.YtmfehflibkokbaaGreatDoor
