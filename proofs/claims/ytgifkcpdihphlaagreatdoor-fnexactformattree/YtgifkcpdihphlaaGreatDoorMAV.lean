import Derived.Test.YtgifkcpdihphlaaGreatDoorMAU
set_option maxHeartbeats 16000000
set_option maxRecDepth 100000
namespace Go.Proofs.YtgifkcpdihphlaaGreatDoor
open Tryz
open Go.RowKit
theorem jB {p:Int} (j:qM p=[]) (h:nC p=true):fT p=dN p:=by simp [fT,j,h]
theorem aEM {p:Int} (j:qM p=[]) (h:nC p=false):fT p=enc p:=by simp [fT,j,h]
theorem aDM {p:Int} (a:p≠8) (b:p≠12) (c:p≠10) (d:p≠13) (e:p≠9) (f:p≠34) (g:p≠92):qM p=[]:=by simp [qM,a,b,c,d,e,f,g]
theorem wP (B:Nat) (v:Value) (ys:List Int) (p:Int) (w:World) (L:B<=w.heap.size) (hT:Tab w) (h:OwB B w v ys) (hn:ys.length<=8388000) (a9:0<=p) (c1:p<=1114111) :
  Calls prog 160 #[v,.int .i32 p] w fun e w'=>∃ v',e=.returned v'/\OwB B w' v' (ys++fT p)/\Below B w w':=by
 have c6:∀ (x:Bool) (w:World),(Op.unary .not (.bool x)).run prog w=.ok (.bool (!x)) w:=fun _ _=>rfl;obtain ⟨i0,hi,M,O,S⟩:=info_parts lL
 by_cases a6:p=34
 ·subst a6
  go_enter func160,ntmps160
  go_wp2_with (at_builtin;refine wpList_append_own _ rfl _ _ 27 rfl B 5 i0 (.int .u8 0) 1 1 underlying27 hi M O S rfl (by decide) _ _ _ rfl (World.ownsRow.alloc h _) ⟨w.heap.size,0,none⟩ 2 2 [.int .u8 92,.int .u8 34] rfl rfl (wT _ _ _ _) (by intro u hu;simp at hu;rcases hu with rfl | rfl<;>rfl) (by unfold maxLen;omega) (by omega) (by simp;omega) ?_;intro v' J U N _)
  have R:=cD (xs:=[92,34]) _ L h U (by simp) N;go_wp2;go_ret;exact ⟨_,rfl,R.1,R.2⟩
 by_cases a5:p=92
 ·subst a5
  go_enter func160,ntmps160
  go_wp2_with (at_builtin;refine wpList_append_own _ rfl _ _ 27 rfl B 5 i0 (.int .u8 0) 1 1 underlying27 hi M O S rfl (by decide) _ _ _ rfl (World.ownsRow.alloc h _) ⟨w.heap.size,0,none⟩ 2 2 [.int .u8 92,.int .u8 92] rfl rfl (wT _ _ _ _) (by intro u hu;simp at hu;rcases hu with rfl | rfl<;>rfl) (by unfold maxLen;omega) (by omega) (by simp;omega) ?_;intro v' J U N _)
  have R:=cD (xs:=[92,92]) _ L h U (by simp) N;go_wp2;go_ret;exact ⟨_,rfl,R.1,R.2⟩
 by_cases h8:p=8
 ·subst h8
  go_enter func160,ntmps160
  go_wp2_with (at_builtin;refine Lib.wpList_append_own_string _ rfl _ _ 27 9 rfl B 5 i0 underlying27 underlying9 hi M O S _ _ _ rfl h { data:=#[92,98] } rfl (by unfold maxLen;simp [ByteArray.size];omega) (by simp [ByteArray.size];omega) L ?_;intro X J y j _)
  have D:OwB B J X (ys++[92,98]):=iK _ rfl _ (by simp [ByteArray.size]) y;have G:=cY L h j;go_wp2;go_ret;exact ⟨_,rfl,D,G⟩
 by_cases a4:p=12
 ·subst a4
  go_enter func160,ntmps160
  go_wp2_with (at_builtin;refine Lib.wpList_append_own_string _ rfl _ _ 27 9 rfl B 5 i0 underlying27 underlying9 hi M O S _ _ _ rfl h { data:=#[92,102] } rfl (by unfold maxLen;simp [ByteArray.size];omega) (by simp [ByteArray.size];omega) L ?_;intro X J y j _)
  have D:OwB B J X (ys++[92,102]):=iK _ rfl _ (by simp [ByteArray.size]) y;have G:=cY L h j;go_wp2;go_ret;exact ⟨_,rfl,D,G⟩
 by_cases Y:p=10
 ·subst Y
  go_enter func160,ntmps160
  go_wp2_with (at_builtin;refine Lib.wpList_append_own_string _ rfl _ _ 27 9 rfl B 5 i0 underlying27 underlying9 hi M O S _ _ _ rfl h { data:=#[92,110] } rfl (by unfold maxLen;simp [ByteArray.size];omega) (by simp [ByteArray.size];omega) L ?_;intro X J y j _)
  have D:OwB B J X (ys++[92,110]):=iK _ rfl _ (by simp [ByteArray.size]) y;have G:=cY L h j;go_wp2;go_ret;exact ⟨_,rfl,D,G⟩
 by_cases Z:p=13
 ·subst Z
  go_enter func160,ntmps160
  go_wp2_with (at_builtin;refine Lib.wpList_append_own_string _ rfl _ _ 27 9 rfl B 5 i0 underlying27 underlying9 hi M O S _ _ _ rfl h { data:=#[92,114] } rfl (by unfold maxLen;simp [ByteArray.size];omega) (by simp [ByteArray.size];omega) L ?_;intro X J y j _)
  have D:OwB B J X (ys++[92,114]):=iK _ rfl _ (by simp [ByteArray.size]) y;have G:=cY L h j;go_wp2;go_ret;exact ⟨_,rfl,D,G⟩
 by_cases h9:p=9
 ·subst h9
  go_enter func160,ntmps160
  go_wp2_with (at_builtin;refine Lib.wpList_append_own_string _ rfl _ _ 27 9 rfl B 5 i0 underlying27 underlying9 hi M O S _ _ _ rfl h { data:=#[92,116] } rfl (by unfold maxLen;simp [ByteArray.size];omega) (by simp [ByteArray.size];omega) L ?_;intro X J y j _)
  have D:OwB B J X (ys++[92,116]):=iK _ rfl _ (by simp [ByteArray.size]) y;have G:=cY L h j;go_wp2;go_ret;exact ⟨_,rfl,D,G⟩
 by_cases H:p=127
 ·subst H;have HQ:Hid (fT 127=dN 127):=jB rfl rfl;have HX:=aB (jC B v ys 127 w L h (by omega) (by omega) (by omega))
  go_enter func160,ntmps160
  go_wp2_with fail
  refine HX.out.mono ?_;rintro e J ⟨X,rfl,D,G⟩;rw [<- HQ.out] at D;go_wp2;go_ret;exact ⟨_,rfl,D,G⟩
 by_cases A:p=8232
 ·subst A;have HQ:Hid (fT 8232=dN 8232):=jB rfl rfl;have HX:=aB (jC B v ys 8232 w L h (by omega) (by omega) (by omega))
  go_enter func160,ntmps160
  go_wp2_with fail
  refine HX.out.mono ?_;rintro e J ⟨X,rfl,D,G⟩;rw [<- HQ.out] at D;go_wp2;go_ret;exact ⟨_,rfl,D,G⟩
 by_cases E:p=8233
 ·subst E;have HQ:Hid (fT 8233=dN 8233):=jB rfl rfl;have HX:=aB (jC B v ys 8233 w L h (by omega) (by omega) (by omega))
  go_enter func160,ntmps160
  go_wp2_with fail
  refine HX.out.mono ?_;rintro e J ⟨X,rfl,D,G⟩;rw [<- HQ.out] at D;go_wp2;go_ret;exact ⟨_,rfl,D,G⟩
 have c7:(p==34)=false:=(by simpa using a6);have c9:(p==92)=false:=(by simpa using a5);have g8:(p==8)=false:=(by simpa using h8);have d1:(p==12)=false:=(by simpa using a4);have d0:(p==10)=false:=(by simpa using Y);have d2:(p==13)=false:=(by simpa using Z);have g9:(p==9)=false:=(by simpa using h9);have c5:(p==127)=false:=(by simpa using H);have c3:(p==8232)=false:=(by simpa using A);have c4:(p==8233)=false:=(by simpa using E);have hs:=aDM h8 a4 Y Z h9 a6 a5
 by_cases b8:p<32
 ·have HQ:Hid (fT p=dN p):=jB hs (by simp [nC,b8]);have HX:=aB (jC B v ys p w L h (by omega) a9 (by omega));clear a6 a5 h8 a4 Y Z h9 H A E hs
  go_enter func160,ntmps160
  go_wp2_with fail
  refine HX.out.mono ?_;rintro e J ⟨X,rfl,D,G⟩;rw [<- HQ.out] at D;go_wp2;go_ret;exact ⟨_,rfl,D,G⟩
 ·cases ho:bW p
  ·have HQ:Hid (fT p=dN p):=jB hs (by simp [nC,ho]);have c2:p<65536:=(by simp [bW] at ho;omega);have HX:=aB (jC B v ys p w L h (by omega) a9 c2);have HF:=aB (eU p);rw [ho] at HF;clear a6 a5 h8 a4 Y Z h9 H A E hs
   go_enter func160,ntmps160
   go_wp2_with fail
   refine (HF.out _).mono ?_;rintro e J ⟨rfl,rfl⟩
   go_wp2_with fail
   refine HX.out.mono ?_;rintro e J ⟨X,rfl,D,G⟩;rw [<- HQ.out] at D;go_wp2;go_ret;exact ⟨_,rfl,D,G⟩
  ·have HQ:Hid (fT p=enc p):=aEM hs (by simp [nC,ho,b8,H,A,E]);have HX:=aB (aAT B v ys p w L hT h (by omega) a9 c1);have HF:=aB (eU p);rw [ho] at HF;clear a6 a5 h8 a4 Y Z h9 H A E hs
   go_enter func160,ntmps160
   go_wp2_with fail
   refine (HF.out _).mono ?_;rintro e J ⟨rfl,rfl⟩
   go_wp2_with fail
   refine HX.out.mono ?_;rintro e J ⟨X,rfl,D,G⟩;rw [<- HQ.out] at D;go_wp2;go_ret;exact ⟨_,rfl,D,G⟩
theorem uZ (v:Value) (zs:List Int) (w:World) (hv:RdI w.heap.size w v zs) (hn:zs.length<=2097152) :
  Calls prog 159 #[v] w fun e w'=>∃ v',e=.returned (.tuple #[v',.int .i64 (fuR zs).2])/\OwI w.heap.size w' v' (fuR zs).1/\w.grownBy w' none:=by
 obtain ⟨i0,hi,a5,a6,a7⟩:=info_parts aAH;obtain ⟨a,cap,rfl,hr⟩:=hv;have d2:∀ (x:Bool) (w:World),(Op.unary .not (.bool x)).run prog w=.ok (.bool (!x)) w:=fun _ _=>rfl
 go_enter func159,ntmps159
 go_wp2_with (at_make;refine wpList_make_own _ rfl _ _ 47 rfl w.heap.size 3 i0 (.int .i64 0) 1 underlying47 hi a5 a6 _ _ _ zs.length rfl rfl (by omega) ?b2 ?b3 (Nat.le_refl _) ?_)
 case b2=>rw [a7];omega
 case b3=>unfold maxLen;omega
 intro w0 O M;go_wp2
 go_loopw [4,5] (fun v i wr=>∃ (k:Nat) (H:List Int),k<=zs.length/\i=.int .i64 k/\OwI w.heap.size wr v H/\H.length<=k/\H++fu (zs.drop k)=fu zs/\(zs.take k).all bZ=true/\Below w.heap.size w wr)
  (fun _ i _=>zs.length - (intOf i).toNat)
 case atStart=>exact ⟨0,[],Nat.zero_le _,rfl,O,Nat.le_refl _,by simp,rfl,aO M⟩
 case round=>
  obtain ⟨k,H,hk,rfl,j,d4,hx,J,D⟩:=hrel;clear O M
  by_cases S:k<zs.length
  ·obtain ⟨b,off,rfl,hb,hc⟩:=hr (fun h=>by simp [h] at S);have c5:wr.cell? ⟨b,off+k,none⟩=some (.int .i64 (zs[k]?.getD 0)):=(D.cell (by exact hb)).trans (hc k S);have L:k+1<zs.length->wr.cell? ⟨b,off+(k+1),none⟩=some (.int .i64 (zs[k+1]?.getD 0)):=fun h=>(D.cell (by exact hb)).trans (hc (k+1) h);have h1:=aJW zs k S;have h2:=aIf zs k;have Z:=lF zs bZ k S J;have G:∀ _:k+1<zs.length,(zs.take (k+1)).all bZ=true->bZ (zs[k+1]?.getD 0)=true->(zs.take (k+2)).all bZ=true:=fun h=>lF zs bZ (k+1) h;have a4:=yW zs bZ k S;generalize zs[k]?.getD 0=p at c5 h1 h2 Z a4;generalize zs[k+1]?.getD 0=x at L h1 h2 G;clear hc hr J
   by_cases U:bZ p=true
   ·have N:=Z U;clear Z a4
    by_cases E:lU p=true/\k+1<zs.length/\mD x=true
    ·obtain ⟨hp,X,Y⟩:=E;have HE:Hid (H++[qD p x]++fu (zs.drop (k+2))=fu zs):=aEv hx (h2 X hp Y);have b6:=G X N (aMM Y);have b4:=L X;have c2:55296<=p/\p<56320:=(by simpa [lU] using hp);have c1:56320<=x/\x<=57343:=(by simpa [mD] using Y);obtain ⟨f5,d7⟩:=c2;obtain ⟨d8,d9⟩:=c1;clear h1 h2 L hx G N;have HP:Hid (qD p x=65536+(p - 55296)*1024+(x - 56320)):=rfl
     go_wp2_with (first
      | (go_at_call 153;refine (eZ _ _).mono ?_;rintro e w' ⟨rfl,rfl⟩;rw [U])
      | (go_at_call 176;refine (pJ _ _).mono ?_;rintro e w' ⟨rfl,rfl⟩;rw [hp])
      | (go_at_call 177;refine (xA _ _).mono ?_;rintro e w' ⟨rfl,rfl⟩;rw [Y])
      | (at_builtin;refine wpList_append_own _ rfl _ _ 47 rfl w.heap.size 3 i0 (.int .i64 0) 1 8 underlying47 hi a5 a6 a7 rfl (by decide) _ _ _ rfl (World.ownsRow.alloc j _) ⟨wr.heap.size,0,none⟩ 1 1 [.int .i64 (65536+(p - 55296)*1024+(x - 56320))] rfl rfl (cell_one_new _ _ _) (by intro u U;simp at U;subst U;rfl) (by unfold maxLen;omega) (by omega) (by have:=D.size;simp;omega) ?_;intro v' w1 A y _))
     have R:=cD (xs:=[65536+(p - 55296)*1024+(x - 56320)]) _ D.size j A (by simp) y;clear A y j;go_wp2
     go_roundw
     case rel=>exact ⟨k+2,H++[65536+(p - 55296)*1024+(x - 56320)],by omega,by go_num,R.1,by simp;omega,by rw [<- HP.out];exact HE.out,b6,D.trans R.2⟩
     case measure=>simp [intOf];omega
    ·have HE:Hid (H++[p]++fu (zs.drop (k+1))=fu zs):=aDL hx (h1 E)
     have b1:lU p=false\/(lU p=true/\zs.length<=k+1)\/(lU p=true/\k+1<zs.length/\mD x=false):=by
      cases h:lU p
      ·exact .inl rfl
      ·by_cases h3:k+1<zs.length
       ·cases h4:mD x
        ·exact .inr (.inr ⟨rfl,h3,rfl⟩)
        ·exact absurd ⟨h,h3,h4⟩ E
       ·exact .inr (.inl ⟨rfl,by omega⟩)
     clear h1 h2 E hx G;rcases b1 with hw | ⟨hw,b5⟩ | ⟨hw,b5,c6⟩
     all_goals
      first
       | (have b4:=L b5;clear L)
       | clear L
      go_wp2_with (first
       | (go_at_call 153;refine (eZ _ _).mono ?_;rintro e w' ⟨rfl,rfl⟩;rw [U])
       | (go_at_call 176;refine (pJ _ _).mono ?_;rintro e w' ⟨rfl,rfl⟩;rw [hw])
       | (go_at_call 177;refine (xA _ _).mono ?_;rintro e w' ⟨rfl,rfl⟩;rw [c6])
       | (at_builtin;refine wpList_append_own _ rfl _ _ 47 rfl w.heap.size 3 i0 (.int .i64 0) 1 8 underlying47 hi a5 a6 a7 rfl (by decide) _ _ _ rfl (World.ownsRow.alloc j _) ⟨wr.heap.size,0,none⟩ 1 1 [.int .i64 p] rfl rfl (cell_one_new _ _ _) (by intro u U;simp at U;subst U;rfl) (by unfold maxLen;omega) (by omega) (by have:=D.size;simp;omega) ?_;intro v' w1 A y _))
      have R:=cD (xs:=[p]) _ D.size j A (by simp) y;clear A y j;go_wp2
      go_roundw
      case rel=>exact ⟨k+1,H++[p],by omega,by go_num,R.1,by simp;omega,HE.out,N,D.trans R.2⟩
      case measure=>simp [intOf];omega
   ·have b8:bZ p=false:=(by simpa using U);have HF:Hid (zs.all bZ=false):=a4 b8;clear Z a4 h1 h2 G L U
    go_wp2_with (go_at_call 153;refine (eZ _ _).mono ?_;rintro e w' ⟨rfl,rfl⟩;rw [b8])
    go_ret2;exact ⟨_,by rw [rY _ HF.out];rfl,by rw [rY _ HF.out];exact World.ownsRow_nil _ _ _ _,aC D⟩
  ·have HF:Hid (zs.all bZ=true):=by
    unfold Hid;rw [List.take_of_length_le (by omega)] at J;exact J
   have hE:=aIU (by omega) hx;rw [hE] at j;clear hx hr hE J;go_wp2;go_ret2;exact ⟨_,by rw [aCo _ HF.out];rfl,by rw [aCo _ HF.out];exact j,aC D⟩
theorem aE1:∀ (n:Nat) (zs:List Int),zs.length<=n->zs.all bZ=true->∀ p∈fu zs,0<=p/\p<=1114111
 | _,[],_,_=>by simp [fu]
 | _,[u],_,h=>by
   simp [bZ] at h;simp [fu];omega
 | 0,_::_::_,hl,_=>by simp at hl
 | n+1,u::x::r,hl,h=>by
   simp only [List.all_cons,Bool.and_eq_true] at h;obtain ⟨E,D,y⟩:=h;have A:0<=u/\u<65536:=(by simpa [bZ] using E);intro p j;simp only [fu] at j
   split at j
   ·rename_i hh
    simp only [Bool.and_eq_true] at hh;have G:55296<=u/\u<56320:=(by simpa [lU] using hh.1);have H:56320<=x/\x<=57343:=(by simpa [mD] using hh.2);rcases List.mem_cons.1 j with rfl | j
    ·unfold qD;omega
    ·exact aE1 n r (by simp at hl;omega) y p j
   ·rcases List.mem_cons.1 j with rfl | j
    ·omega
    ·exact aE1 n (x::r) (by simp at hl ⊢;omega) (by simp only [List.all_cons,D,y];rfl) p j
theorem aH9 (j:List Int) (h:(fuR j).2=0):∀ p∈(fuR j).1,0<=p/\p<=1114111:=by
 unfold fuR at h ⊢
 split at h
 ·rename_i ha
  rw [if_pos ha];exact aE1 _ j (Nat.le_refl _) ha
 ·simp at h
theorem aCN (w:World) (z:Int):OwB w.heap.size (w.alloc (.cells #[.int .u8 z] 5)) (.slice (some ⟨w.heap.size,0,none⟩) 1 1) [z]:=
 ⟨rfl,.inr ⟨w.heap.size,1,#[.int .u8 z],rfl,Nat.le_refl _,heap_alloc_new w _,Nat.le_refl _,by unfold maxLen;omega,rfl,rfl⟩⟩
theorem aBy (v:Value) (zs:List Int) (w:World) (hT:Tab w) (hv:RdI w.heap.size w v zs) (hn:zs.length<=1048576) :
  Calls prog 143 #[v] w fun e w'=>∃ v',e=.returned (.tuple #[v',.int .i64 (quR zs).2])/\OwB w.heap.size w' v' (quR zs).1/\w.grownBy w' none:=by
 obtain ⟨i0,hi,a9,b3,b8⟩:=info_parts lL;have HF:=aB (uZ v zs w hv (by omega));have y:=aH9 zs;have a7:=aCQ zs;have U:Hid (quR zs=if (fuR zs).2=0 then (34::jM (fuR zs).1++[34],0) else ([],(fuR zs).2)):=rfl;obtain ⟨a,cap,rfl,_⟩:=hv;generalize fuR zs=f at HF y a7 U;obtain ⟨ps,c⟩:=f;simp only at HF y a7 U
 by_cases O:c=0
 ·subst O;have HB:=aB (y rfl);have HR:=aB (U.out.trans (if_pos rfl));clear y U
  go_enter func143,ntmps143
  go_wp2_with fail
  refine HF.out.mono ?_;rintro e J ⟨pv,rfl,o1,Y⟩;obtain ⟨a1,c2,b5,N⟩:=o1.rd;subst b5;have X:=aB (hT.K Y);have b0:=aB Y;have b4:=Y.size;clear hT HF o1;go_wp2
  go_loopw [6,20] (fun v i wr=>∃ k:Nat,k<=ps.length/\i=.int .i64 k/\OwB J.heap.size wr v (34::jM (ps.take k))/\Below J.heap.size J wr)
   (fun _ i _=>ps.length - (intOf i).toNat)
  case atStart=>exact ⟨0,Nat.zero_le _,rfl,aCN J 34,iJ J _⟩
  case round=>
   obtain ⟨k,hk,rfl,j,E⟩:=hrel;have L:=zJ (ps.take k);rw [List.length_take_of_le hk] at L;have a8:=E.size;have S:=X.out.below E X.out.pos
   by_cases G:k<ps.length
   ·obtain ⟨b,off,rfl,hb,O⟩:=N (fun h=>by simp [h] at G);have b1:wr.cell? ⟨b,off+k,none⟩=some (.int .i64 (ps[k]?.getD 0)):=(E.cell (by exact hb)).trans (O k G);have M:=aBO ps k G;have H:=HB.out (ps[k]?.getD 0) (by simp [G]);generalize ps[k]?.getD 0=p at b1 M H;have HE:Hid (34::jM (ps.take (k+1))=(34::jM (ps.take k))++fT p):=(by rw [Hid,M];rfl);have HX:=aB (wP J.heap.size _ _ p wr a8 S j (by simp;omega) H.1 H.2);obtain ⟨c6,c9⟩:=H;have d3:IntKind.i32.wrap p=p:=mS p (by omega) (by omega);clear M O N j S
    go_wp2_with fail
    refine HX.out.mono ?_;rintro e w2 ⟨v2,rfl,o2,b2⟩;rw [<- HE.out] at o2;go_wp2
    go_roundw
    case rel=>exact ⟨k+1,by omega,by go_num,o2,E.trans b2⟩
    case measure=>simp [intOf];omega
   ·have a5:k=ps.length:=(by omega);rw [a5,List.take_length] at j L;clear N a5 S;have Z:(34::jM ps).length=(jM ps).length+1:=by simp
    go_wp2_with (at_builtin;refine wpList_append_own _ rfl _ _ 27 rfl J.heap.size 5 i0 (.int .u8 0) 1 1 underlying27 hi a9 b3 b8 rfl (by decide) _ _ _ rfl (World.ownsRow.alloc j _) ⟨wr.heap.size,0,none⟩ 1 1 [.int .u8 34] rfl rfl (cell_one_new _ _ _) (by intro u hu;simp at hu;subst hu;rfl) (by rw [Z];unfold maxLen;omega) (by rw [Z];omega) (by simp;omega) ?_;intro v' w2 D A _)
    have R:=cD (xs:=[34]) _ a8 j D (by simp) A;clear D A j;go_wp2;go_ret2;refine ⟨_,by rw [HR.out];rfl,?_,?_⟩
    ·rw [HR.out];exact bH b4 R.1
    ·exact aA b0.out (aC (E.trans R.2))
 ·have HR:=aB (U.out.trans (if_neg O));have d1:(c != 0)=true:=(by simpa using O);clear y U O
  go_enter func143,ntmps143
  go_wp2_with fail
  refine HF.out.mono ?_;rintro e J ⟨pv,rfl,o1,Y⟩;go_wp2;go_ret2;exact ⟨_,by rw [HR.out];rfl,by rw [HR.out];exact World.ownsRow_nil _ _ _ _,Y⟩
end Go.Proofs.YtgifkcpdihphlaaGreatDoor
namespace Go.Proofs.YtgifkcpdihphlaaGreatDoor
open Tryz
open Go.RowKit
attribute [-go_sem] run_index_string
theorem aK5 {p:Int} (h:bW p=false):cM p=0:=by simp [cM,h]
theorem aKX (w:World) (a b c d e f:Int):OwB w.heap.size (w.alloc (.cells #[.int .u8 a,.int .u8 b,.int .u8 c,.int .u8 d,.int .u8 e,.int .u8 f] 5)) (.slice (some ⟨w.heap.size,0,none⟩) 6 6) [a,b,c,d,e,f]:=
 ⟨rfl,.inr ⟨w.heap.size,6,_,rfl,Nat.le_refl _,heap_alloc_new w _,Nat.le_refl _,by unfold maxLen;omega,rfl,rfl⟩⟩
theorem qW (p:Int) (w:World) (u:0<=p) (y:p<65536) :
  Calls prog 105 #[.int .i64 p] w fun e w'=>∃ j,e=.returned j/\OwB w.heap.size w' j (dN p)/\Below w.heap.size w w':=by
 have h:=fun q=>aK2 q;unfold aBm at h;have D:=fun W=>h (p / 4096) W;have G:=fun W=>h (p / 256) W;have A:=fun W=>h (p / 16) W;have E:=fun W=>h p W;clear h
 go_enter func105,ntmps105
 go_wp2_with fail
 go_region
 all_goals
  go_wp2;go_ret;exact ⟨_,rfl,aKX w _ _ _ _ _ _,⟨rfl,rfl,rfl,(iJ w _).size,(iJ w _).block⟩⟩
theorem sH {B:Nat} {w u:World} {v y:Value} {ys xs:List Int} (A:B<=w.heap.size) (hv:OwB B w v ys) (h:u.ownsRow B 5 1 y (ys.length+xs.length) (ys.map (Value.int .u8)++xs.map (Value.int .u8))) (j:w.grownBy u v.ownBlock) :
  OwB B u y (ys++xs)/\Below B w u:=by
 refine ⟨?_,cY A hv j⟩;unfold OwB Ow;rw [List.length_append,List.map_append];exact h
theorem tJ (v:Value) (zs:List Int) (w:World) (hv:RdI w.heap.size w v zs) (hn:zs.length<=1048576) :
  Calls prog 67 #[v] w fun e w'=>∃ v',e=.returned (.tuple #[v',.int .i64 (quR zs).2])/\OwB w.heap.size w' v' (quR zs).1/\w.grownBy w' none:=by
 obtain ⟨i0,hi,a7,a6,a5⟩:=info_parts lL;have HF:=aB (nM v zs w hv (by omega));have c7:=aH9 zs;have g0:=aCQ zs;have HQ:Hid (quR zs=if (fuR zs).2=0 then (34::jM (fuR zs).1++[34],0) else ([],(fuR zs).2)):=rfl;obtain ⟨a,cap,rfl,_⟩:=hv;generalize fuR zs=f at HF c7 g0 HQ;obtain ⟨ps,c⟩:=f;simp only at HF c7 g0 HQ
 by_cases hc:c=0
 ·subst hc;have HB:=aB (c7 rfl);have HR:=aB (HQ.out.trans (if_pos rfl));clear c7 HQ
  go_enter func67,ntmps67
  go_wp2_with fail
  refine HF.out.mono ?_;rintro e Y ⟨pv,rfl,O,g1⟩;obtain ⟨a1,S,i2,f6⟩:=O.rd;subst i2;have i1:=aB g1;have h5:=g1.size;clear HF O;go_wp2
  go_loopw [6,7] (fun v i wr=>∃ k:Nat,k<=ps.length/\i=.int .i64 k/\OwB Y.heap.size wr v (34::jM (ps.take k))/\Below Y.heap.size Y wr)
   (fun _ i _=>ps.length - (intOf i).toNat)
  case atStart=>exact ⟨0,Nat.zero_le _,rfl,aCN Y 34,iJ Y _⟩
  case round=>
   obtain ⟨k,hk,rfl,j,M⟩:=hrel;have d1:=zJ (ps.take k);rw [List.length_take_of_le hk] at d1;have c4:(34::jM (ps.take k)).length=(jM (ps.take k)).length+1:=(by simp);have N:=M.size
   by_cases d5:k<ps.length
   ·obtain ⟨b,off,rfl,hb,hc⟩:=f6 (fun h=>by simp [h] at d5);have h4:wr.cell? ⟨b,off+k,none⟩=some (.int .i64 (ps[k]?.getD 0)):=(M.cell (by exact hb)).trans (hc k d5);have d9:=aBO ps k d5;have g2:=HB.out (ps[k]?.getD 0) (by simp [d5]);generalize ps[k]?.getD 0=p at h4 d9 g2;have HE:Hid (34::jM (ps.take (k+1))=(34::jM (ps.take k))++fT p):=(by rw [Hid,d9];rfl);obtain ⟨c8,i8⟩:=g2;clear d9 hc f6;generalize h6:34::jM (ps.take k)=ys at j HE c4;have j5:ys.length<=6291457:=(by omega);clear h6 c4 d1
    by_cases h8:p=8
    ·subst h8
     go_wp2_with (at_builtin;refine Lib.wpList_append_own_string _ rfl _ _ 27 9 rfl Y.heap.size 5 i0 underlying27 underlying9 hi a7 a6 a5 _ _ _ rfl j { data:=#[92,98] } rfl (by unfold maxLen;simp [ByteArray.size];omega) (by simp [ByteArray.size];omega) N ?_;intro v2 w2 G y _)
     have o2:OwB Y.heap.size w2 v2 (ys++fT 8):=iK _ rfl _ (by simp [ByteArray.size];rfl) G;have b2:=cY N j y;rw [<- HE.out] at o2;clear G y j;go_wp2
     go_roundw
     case rel=>exact ⟨k+1,by omega,by go_num,o2,M.trans b2⟩
     case measure=>simp [intOf];omega
    by_cases d7:p=12
    ·subst d7
     go_wp2_with (at_builtin;refine Lib.wpList_append_own_string _ rfl _ _ 27 9 rfl Y.heap.size 5 i0 underlying27 underlying9 hi a7 a6 a5 _ _ _ rfl j { data:=#[92,102] } rfl (by unfold maxLen;simp [ByteArray.size];omega) (by simp [ByteArray.size];omega) N ?_;intro v2 w2 G y _)
     have o2:OwB Y.heap.size w2 v2 (ys++fT 12):=iK _ rfl _ (by simp [ByteArray.size];rfl) G;have b2:=cY N j y;rw [<- HE.out] at o2;clear G y j;go_wp2
     go_roundw
     case rel=>exact ⟨k+1,by omega,by go_num,o2,M.trans b2⟩
     case measure=>simp [intOf];omega
    by_cases d4:p=10
    ·subst d4
     go_wp2_with (at_builtin;refine Lib.wpList_append_own_string _ rfl _ _ 27 9 rfl Y.heap.size 5 i0 underlying27 underlying9 hi a7 a6 a5 _ _ _ rfl j { data:=#[92,110] } rfl (by unfold maxLen;simp [ByteArray.size];omega) (by simp [ByteArray.size];omega) N ?_;intro v2 w2 G y _)
     have o2:OwB Y.heap.size w2 v2 (ys++fT 10):=iK _ rfl _ (by simp [ByteArray.size];rfl) G;have b2:=cY N j y;rw [<- HE.out] at o2;clear G y j;go_wp2
     go_roundw
     case rel=>exact ⟨k+1,by omega,by go_num,o2,M.trans b2⟩
     case measure=>simp [intOf];omega
    by_cases d6:p=13
    ·subst d6
     go_wp2_with (at_builtin;refine Lib.wpList_append_own_string _ rfl _ _ 27 9 rfl Y.heap.size 5 i0 underlying27 underlying9 hi a7 a6 a5 _ _ _ rfl j { data:=#[92,114] } rfl (by unfold maxLen;simp [ByteArray.size];omega) (by simp [ByteArray.size];omega) N ?_;intro v2 w2 G y _)
     have o2:OwB Y.heap.size w2 v2 (ys++fT 13):=iK _ rfl _ (by simp [ByteArray.size];rfl) G;have b2:=cY N j y;rw [<- HE.out] at o2;clear G y j;go_wp2
     go_roundw
     case rel=>exact ⟨k+1,by omega,by go_num,o2,M.trans b2⟩
     case measure=>simp [intOf];omega
    by_cases h9:p=9
    ·subst h9
     go_wp2_with (at_builtin;refine Lib.wpList_append_own_string _ rfl _ _ 27 9 rfl Y.heap.size 5 i0 underlying27 underlying9 hi a7 a6 a5 _ _ _ rfl j { data:=#[92,116] } rfl (by unfold maxLen;simp [ByteArray.size];omega) (by simp [ByteArray.size];omega) N ?_;intro v2 w2 G y _)
     have o2:OwB Y.heap.size w2 v2 (ys++fT 9):=iK _ rfl _ (by simp [ByteArray.size];rfl) G;have b2:=cY N j y;rw [<- HE.out] at o2;clear G y j;go_wp2
     go_roundw
     case rel=>exact ⟨k+1,by omega,by go_num,o2,M.trans b2⟩
     case measure=>simp [intOf];omega
    by_cases d2:p=34
    ·subst d2
     go_wp2_with (at_builtin;refine Lib.wpList_append_own_string _ rfl _ _ 27 9 rfl Y.heap.size 5 i0 underlying27 underlying9 hi a7 a6 a5 _ _ _ rfl j { data:=#[92,34] } rfl (by unfold maxLen;simp [ByteArray.size];omega) (by simp [ByteArray.size];omega) N ?_;intro v2 w2 G y _)
     have o2:OwB Y.heap.size w2 v2 (ys++fT 34):=iK _ rfl _ (by simp [ByteArray.size];rfl) G;have b2:=cY N j y;rw [<- HE.out] at o2;clear G y j;go_wp2
     go_roundw
     case rel=>exact ⟨k+1,by omega,by go_num,o2,M.trans b2⟩
     case measure=>simp [intOf];omega
    by_cases d8:p=92
    ·subst d8
     go_wp2_with (at_builtin;refine Lib.wpList_append_own_string _ rfl _ _ 27 9 rfl Y.heap.size 5 i0 underlying27 underlying9 hi a7 a6 a5 _ _ _ rfl j { data:=#[92,92] } rfl (by unfold maxLen;simp [ByteArray.size];omega) (by simp [ByteArray.size];omega) N ?_;intro v2 w2 G y _)
     have o2:OwB Y.heap.size w2 v2 (ys++fT 92):=iK _ rfl _ (by simp [ByteArray.size];rfl) G;have b2:=cY N j y;rw [<- HE.out] at o2;clear G y j;go_wp2
     go_roundw
     case rel=>exact ⟨k+1,by omega,by go_num,o2,M.trans b2⟩
     case measure=>simp [intOf];omega
    have g8:(p==8)=false:=(by simpa using h8);have j0:(p==12)=false:=(by simpa using d7);have i9:(p==10)=false:=(by simpa using d4);have j1:(p==13)=false:=(by simpa using d6);have g9:(p==9)=false:=(by simpa using h9);have j3:(p==34)=false:=(by simpa using d2);have i5:(p==92)=false:=(by simpa using d8);have hs:=aDM h8 d7 d4 d6 h9 d2 d8;clear h8 d7 d4 d6 h9 d2 d8;have b7:=aB (jJ p)
    by_cases g7:p<32
    ·have HQ:Hid (fT p=dN p):=jB hs (by simp [nC,g7]);have HX:=aB (qW p wr c8 (by omega));clear hs b7
     go_wp2_with fail
     refine HX.out.mono ?_;rintro e w2 ⟨t1,rfl,O,b1⟩;have A:OwB Y.heap.size w2 u6 ys:=Ow.later j (aC b1);have H:=M.trans (b1.mono N)
     have a9:∃ g cap,∃ t',t'=Value.slice (some ⟨g,0,none⟩) (dN p).length cap/\t'=t1:=by
      rcases O.2 with ⟨_,h⟩ | ⟨g,cap,c5,h,_⟩
      ·exfalso;have e:=(rfl:(dN p).length=6);first | omega | (simp [dN] at h)
      ·exact ⟨g,cap,_,rfl,h.symm⟩
     obtain ⟨g,S,t',L,J⟩:=a9;rw [<- J] at O;rw [<- J,L];rw [L] at O;have U:=World.ownsRow.cells O (g:=g) rfl;have X:=H.size;have d0:(dN p).length<=6:=Nat.le_of_eq rfl;clear J L j M b1
     go_wp2_with (at_builtin;refine wpList_append_own _ rfl _ _ 27 rfl Y.heap.size 5 i0 (.int .u8 0) 1 1 underlying27 hi a7 a6 a5 rfl (by decide) _ _ _ rfl A ⟨g,0,none⟩ (dN p).length S ((dN p).map (Value.int .u8)) rfl (by simp) U (ints_oneCell _ _) (by unfold maxLen;omega) (by omega) X ?_;intro v' w3 E D _)
     have R:=sH X A E D;rw [<- HQ.out,<- HE.out] at R;clear E D A U O;go_wp2
     go_roundw
     case rel=>exact ⟨k+1,by omega,by go_num,R.1,H.trans R.2⟩
     case measure=>simp [intOf];omega
    by_cases b4:p=127
    ·have HQ:Hid (fT p=dN p):=jB hs (by simp [nC,b4]);have f9:(p==127)=true:=(by simp [b4]);have HX:=aB (qW p wr c8 (by omega));clear hs b7 b4
     go_wp2_with fail
     refine HX.out.mono ?_;rintro e w2 ⟨t1,rfl,O,b1⟩;have A:OwB Y.heap.size w2 u6 ys:=Ow.later j (aC b1);have H:=M.trans (b1.mono N)
     have a9:∃ g cap,∃ t',t'=Value.slice (some ⟨g,0,none⟩) (dN p).length cap/\t'=t1:=by
      rcases O.2 with ⟨_,h⟩ | ⟨g,cap,c5,h,_⟩
      ·exfalso;have e:=(rfl:(dN p).length=6);first | omega | (simp [dN] at h)
      ·exact ⟨g,cap,_,rfl,h.symm⟩
     obtain ⟨g,S,t',L,J⟩:=a9;rw [<- J] at O;rw [<- J,L];rw [L] at O;have U:=World.ownsRow.cells O (g:=g) rfl;have X:=H.size;have d0:(dN p).length<=6:=Nat.le_of_eq rfl;clear J L j M b1
     go_wp2_with (at_builtin;refine wpList_append_own _ rfl _ _ 27 rfl Y.heap.size 5 i0 (.int .u8 0) 1 1 underlying27 hi a7 a6 a5 rfl (by decide) _ _ _ rfl A ⟨g,0,none⟩ (dN p).length S ((dN p).map (Value.int .u8)) rfl (by simp) U (ints_oneCell _ _) (by unfold maxLen;omega) (by omega) X ?_;intro v' w3 E D _)
     have R:=sH X A E D;rw [<- HQ.out,<- HE.out] at R;clear E D A U O;go_wp2
     go_roundw
     case rel=>exact ⟨k+1,by omega,by go_num,R.1,H.trans R.2⟩
     case measure=>simp [intOf];omega
    have f9:(p==127)=false:=by simpa using b4
    by_cases Z:p=8232
    ·have HQ:Hid (fT p=dN p):=jB hs (by simp [nC,Z]);have f5:(p==8232)=true:=(by simp [Z]);have HX:=aB (qW p wr c8 (by omega));clear hs b7 Z
     go_wp2_with fail
     refine HX.out.mono ?_;rintro e w2 ⟨t1,rfl,O,b1⟩;have A:OwB Y.heap.size w2 u6 ys:=Ow.later j (aC b1);have H:=M.trans (b1.mono N)
     have a9:∃ g cap,∃ t',t'=Value.slice (some ⟨g,0,none⟩) (dN p).length cap/\t'=t1:=by
      rcases O.2 with ⟨_,h⟩ | ⟨g,cap,c5,h,_⟩
      ·exfalso;have e:=(rfl:(dN p).length=6);first | omega | (simp [dN] at h)
      ·exact ⟨g,cap,_,rfl,h.symm⟩
     obtain ⟨g,S,t',L,J⟩:=a9;rw [<- J] at O;rw [<- J,L];rw [L] at O;have U:=World.ownsRow.cells O (g:=g) rfl;have X:=H.size;have d0:(dN p).length<=6:=Nat.le_of_eq rfl;clear J L j M b1
     go_wp2_with (at_builtin;refine wpList_append_own _ rfl _ _ 27 rfl Y.heap.size 5 i0 (.int .u8 0) 1 1 underlying27 hi a7 a6 a5 rfl (by decide) _ _ _ rfl A ⟨g,0,none⟩ (dN p).length S ((dN p).map (Value.int .u8)) rfl (by simp) U (ints_oneCell _ _) (by unfold maxLen;omega) (by omega) X ?_;intro v' w3 E D _)
     have R:=sH X A E D;rw [<- HQ.out,<- HE.out] at R;clear E D A U O;go_wp2
     go_roundw
     case rel=>exact ⟨k+1,by omega,by go_num,R.1,H.trans R.2⟩
     case measure=>simp [intOf];omega
    have f5:(p==8232)=false:=by simpa using Z
    by_cases a4:p=8233
    ·have HQ:Hid (fT p=dN p):=jB hs (by simp [nC,a4]);have f4:(p==8233)=true:=(by simp [a4]);have HX:=aB (qW p wr c8 (by omega));clear hs b7 a4
     go_wp2_with fail
     refine HX.out.mono ?_;rintro e w2 ⟨t1,rfl,O,b1⟩;have A:OwB Y.heap.size w2 u6 ys:=Ow.later j (aC b1);have H:=M.trans (b1.mono N)
     have a9:∃ g cap,∃ t',t'=Value.slice (some ⟨g,0,none⟩) (dN p).length cap/\t'=t1:=by
      rcases O.2 with ⟨_,h⟩ | ⟨g,cap,c5,h,_⟩
      ·exfalso;have e:=(rfl:(dN p).length=6);first | omega | (simp [dN] at h)
      ·exact ⟨g,cap,_,rfl,h.symm⟩
     obtain ⟨g,S,t',L,J⟩:=a9;rw [<- J] at O;rw [<- J,L];rw [L] at O;have U:=World.ownsRow.cells O (g:=g) rfl;have X:=H.size;have d0:(dN p).length<=6:=Nat.le_of_eq rfl;clear J L j M b1
     go_wp2_with (at_builtin;refine wpList_append_own _ rfl _ _ 27 rfl Y.heap.size 5 i0 (.int .u8 0) 1 1 underlying27 hi a7 a6 a5 rfl (by decide) _ _ _ rfl A ⟨g,0,none⟩ (dN p).length S ((dN p).map (Value.int .u8)) rfl (by simp) U (ints_oneCell _ _) (by unfold maxLen;omega) (by omega) X ?_;intro v' w3 E D _)
     have R:=sH X A E D;rw [<- HQ.out,<- HE.out] at R;clear E D A U O;go_wp2
     go_roundw
     case rel=>exact ⟨k+1,by omega,by go_num,R.1,H.trans R.2⟩
     case measure=>simp [intOf];omega
    have f4:(p==8233)=false:=(by simpa using a4);cases ho:bW p
    ·have HQ:Hid (fT p=dN p):=jB hs (by simp [nC,ho]);have g3:p<65536:=(by simp [bW] at ho;omega);have HX:=aB (qW p wr c8 g3);have f8:cM p=0:=aK5 ho;rw [f8] at b7;clear hs b4 Z a4
     go_wp2_with fail
     refine (b7.out _).mono ?_;rintro e w9 ⟨rfl,rfl⟩
     go_wp2_with fail
     refine HX.out.mono ?_;rintro e w2 ⟨t1,rfl,O,b1⟩;have A:OwB Y.heap.size w2 u6 ys:=Ow.later j (aC b1);have H:=M.trans (b1.mono N)
     have a9:∃ g cap,∃ t',t'=Value.slice (some ⟨g,0,none⟩) (dN p).length cap/\t'=t1:=by
      rcases O.2 with ⟨_,h⟩ | ⟨g,cap,c5,h,_⟩
      ·exfalso;have e:=(rfl:(dN p).length=6);first | omega | (simp [dN] at h)
      ·exact ⟨g,cap,_,rfl,h.symm⟩
     obtain ⟨g,S,t',L,J⟩:=a9;rw [<- J] at O;rw [<- J,L];rw [L] at O;have U:=World.ownsRow.cells O (g:=g) rfl;have X:=H.size;have d0:(dN p).length<=6:=Nat.le_of_eq rfl;clear J L j M b1
     go_wp2_with (at_builtin;refine wpList_append_own _ rfl _ _ 27 rfl Y.heap.size 5 i0 (.int .u8 0) 1 1 underlying27 hi a7 a6 a5 rfl (by decide) _ _ _ rfl A ⟨g,0,none⟩ (dN p).length S ((dN p).map (Value.int .u8)) rfl (by simp) U (ints_oneCell _ _) (by unfold maxLen;omega) (by omega) X ?_;intro v' w3 E D _)
     have R:=sH X A E D;rw [<- HQ.out,<- HE.out] at R;clear E D A U O;go_wp2
     go_roundw
     case rel=>exact ⟨k+1,by omega,by go_num,R.1,H.trans R.2⟩
     case measure=>simp [intOf];omega
    ·have HQ:Hid (fT p=enc p):=aEM hs (by simp [nC,ho,g7,b4,Z,a4]);have HX:=aB (aDj p wr ho);have f8:(cM p==0)=false:=(by have:=aCP p ho;simp;omega);have h7:=uW p;clear hs b4 Z a4
     go_wp2_with fail
     refine (b7.out _).mono ?_;rintro e w9 ⟨rfl,rfl⟩
     go_wp2_with fail
     refine HX.out.mono ?_;rintro e w2 ⟨t1,rfl,O,b1⟩;have A:OwB Y.heap.size w2 u6 ys:=Ow.later j (aC b1);have H:=M.trans (b1.mono N)
     have a9:∃ g cap,∃ t',t'=Value.slice (some ⟨g,0,none⟩) (enc p).length cap/\t'=t1:=by
      rcases O.2 with ⟨_,h⟩ | ⟨g,cap,c5,h,_⟩
      ·exfalso;have e:=h7;first | omega | (simp [dN] at h)
      ·exact ⟨g,cap,_,rfl,h.symm⟩
     obtain ⟨g,S,t',L,J⟩:=a9;rw [<- J] at O;rw [<- J,L];rw [L] at O;have U:=World.ownsRow.cells O (g:=g) rfl;have X:=H.size;have d0:(enc p).length<=6:=(by omega);clear J L j M b1
     go_wp2_with (at_builtin;refine wpList_append_own _ rfl _ _ 27 rfl Y.heap.size 5 i0 (.int .u8 0) 1 1 underlying27 hi a7 a6 a5 rfl (by decide) _ _ _ rfl A ⟨g,0,none⟩ (enc p).length S ((enc p).map (Value.int .u8)) rfl (by simp) U (ints_oneCell _ _) (by unfold maxLen;omega) (by omega) X ?_;intro v' w3 E D _)
     have R:=sH X A E D;rw [<- HQ.out,<- HE.out] at R;clear E D A U O;go_wp2
     go_roundw
     case rel=>exact ⟨k+1,by omega,by go_num,R.1,H.trans R.2⟩
     case measure=>simp [intOf];omega
   ·have g4:k=ps.length:=(by omega);rw [g4,List.take_length] at j d1 c4;clear f6 g4
    go_wp2_with (at_builtin;refine wpList_append_own _ rfl _ _ 27 rfl Y.heap.size 5 i0 (.int .u8 0) 1 1 underlying27 hi a7 a6 a5 rfl (by decide) _ _ _ rfl (World.ownsRow.alloc j _) ⟨wr.heap.size,0,none⟩ 1 1 [.int .u8 34] rfl rfl (cell_one_new _ _ _) (by intro u hu;simp at hu;subst hu;rfl) (by rw [c4];unfold maxLen;omega) (by rw [c4];omega) (by simp;omega) ?_;intro v' w2 E D _)
    have R:=cD (xs:=[34]) _ N j E (by simp) D;clear E D j;go_wp2;go_ret2;refine ⟨_,by rw [HR.out];rfl,?_,?_⟩
    ·rw [HR.out];exact bH h5 R.1
    ·exact aA i1.out (aC (M.trans R.2))
 ·have HR:=aB (HQ.out.trans (if_neg hc));have j4:(c != 0)=true:=(by simpa using hc);clear c7 HQ hc
  go_enter func67,ntmps67
  go_wp2_with fail
  refine HF.out.mono ?_;rintro e Y ⟨pv,rfl,O,g1⟩;go_wp2;go_ret2;exact ⟨_,by rw [HR.out];rfl,by rw [HR.out];exact World.ownsRow_nil _ _ _ _,g1⟩
end Go.Proofs.YtgifkcpdihphlaaGreatDoor
namespace Go.Proofs.YtgifkcpdihphlaaGreatDoor
open Tryz
open Go.RowKit
theorem lX (p:Int) (w:World):Calls prog 109 #[.int .i64 p] w fun e w'=>e=.returned (.bool (iA p))/\w=w':=by
 by_cases h:iA p=true
 ·have j:Hid (iA p=true):=h;have u:(97<=p/\p<=122)\/(65<=p/\p<=90)\/p=95\/p=36:=(by simpa [iA] using h);clear h;rcases u with ⟨A,D⟩ | ⟨A,D⟩ | rfl | rfl
  ·have y:¬ p<=90:=(by omega);have E:65<=p:=by omega
   go_enter func109,ntmps109
   go_wp2;go_ret;exact ⟨by rw [j.out];rfl,rfl⟩
  ·have y:¬ 97<=p:=by omega
   go_enter func109,ntmps109
   go_wp2;go_ret;exact ⟨by rw [j.out];rfl,rfl⟩
  all_goals
   go_enter func109,ntmps109
   go_wp2;go_ret;exact ⟨rfl,rfl⟩
 ·have j:Hid (iA p=false):=(by simpa [Hid] using h);have u:¬ ((97<=p/\p<=122)\/(65<=p/\p<=90)\/p=95\/p=36):=(by simpa [iA] using h);clear h;have G:(p==95)=false:=(by simp;omega);have H:(p==36)=false:=by simp;omega
  by_cases A:65<=p
  ·have D:¬ p<=90:=by omega
   by_cases y:97<=p
   ·have E:¬ p<=122:=(by omega);clear u
    go_enter func109,ntmps109
    go_wp2;go_ret;exact ⟨by rw [j.out];rfl,rfl⟩
   ·clear u
    go_enter func109,ntmps109
    go_wp2;go_ret;exact ⟨by rw [j.out];rfl,rfl⟩
  ·have y:¬ 97<=p:=(by omega);clear u
   go_enter func109,ntmps109
   go_wp2;go_ret;exact ⟨by rw [j.out];rfl,rfl⟩
theorem zN (v:Value) (zs:List Int) (w:World) (hv:RdI w.heap.size w v zs) (Y:zs.length<=2097152) :
  Calls prog 75 #[v] w fun e w'=>e=.returned (.bool (nmR zs))/\w=w':=by
 obtain ⟨a,cap,rfl,N⟩:=hv;have S:∀ (x:Bool) (w:World),(Op.unary .not (.bool x)).run prog w=.ok (.bool (!x)) w:=fun _ _=>rfl
 go_enter func75,ntmps75
 go_wp2
 go_loopw [3] (fun i wr=>∃ k:Nat,k<=zs.length/\i=.int .i64 k/\tS zs k=true/\w=wr)
  (fun i _=>zs.length - (intOf i).toNat)
 case atStart=>exact ⟨0,Nat.zero_le _,rfl,rfl,rfl⟩
 case round=>
  obtain ⟨k,Z,rfl,y,rfl⟩:=hrel
  by_cases E:k<zs.length
  ·obtain ⟨b,off,rfl,hb,U⟩:=N (fun h=>by simp [h] at E);have M:=U k E;have j:=aB (aB4 zs k y);have u:=aB (aGj zs k E);generalize zs[k]?.getD 0=p at M j u;clear U N;cases D:iA p
   ·by_cases A:k=0
    ·have O:((k:Int)==0)=true:=(by simp [A]);have H:Hid (nmR zs=false):=u.out (by simp [vT,D,A]);have HK:=aB A;clear j u A
     go_wp2_with (first
      | (go_at_call 109;refine (lX _ _).mono ?_;rintro e w' ⟨rfl,rfl⟩;rw [D]))
     go_ret;exact ⟨by rw [H.out];rfl,rfl⟩
    ·have O:((k:Int)==0)=false:=(by simp;omega);cases J:aK p
     ·have H:Hid (nmR zs=false):=u.out (by simp [vT,D,J]);clear j u
      go_wp2_with (first
       | (go_at_call 109;refine (lX _ _).mono ?_;rintro e w' ⟨rfl,rfl⟩;rw [D])
       | (go_at_call 110;refine (eA _ _).mono ?_;rintro e w' ⟨rfl,rfl⟩;rw [J]))
      go_ret;exact ⟨by rw [H.out];rfl,rfl⟩
     ·have L:Hid (tS zs (k+1)=true):=j.out (by simp [vT,D,J,A]);clear j u
      go_wp2_with (first
       | (go_at_call 109;refine (lX _ _).mono ?_;rintro e w' ⟨rfl,rfl⟩;rw [D])
       | (go_at_call 110;refine (eA _ _).mono ?_;rintro e w' ⟨rfl,rfl⟩;rw [J]))
      go_roundw
      case rel=>exact ⟨k+1,by omega,by go_num,L.out,trivial⟩
      case measure=>simp [intOf];omega
   ·have L:Hid (tS zs (k+1)=true):=j.out (by simp [vT,D]);clear j u
    go_wp2_with (first
     | (go_at_call 109;refine (lX _ _).mono ?_;rintro e w' ⟨rfl,rfl⟩;rw [D]))
    go_roundw
    case rel=>exact ⟨k+1,by omega,by go_num,L.out,trivial⟩
    case measure=>simp [intOf];omega
  ·have G:k=zs.length:=(by omega);rw [G] at y;have H:Hid (nmR zs=decide (0<zs.length)):=aGa zs y;have X:Hid (decide ((0:Int)<(zs.length:Int))=decide (0<zs.length)):=(by simp [Hid]);clear N y G;go_wp2;go_ret;exact ⟨by rw [H.out,<- X.out];rfl,rfl⟩
end Go.Proofs.YtgifkcpdihphlaaGreatDoor
