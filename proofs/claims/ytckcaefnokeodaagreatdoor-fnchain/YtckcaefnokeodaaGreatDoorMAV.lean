import Derived.Test.YtckcaefnokeodaaGreatDoorMAI
import Derived.Test.YtckcaefnokeodaaGreatDoorMAU
set_option maxHeartbeats 16000000
set_option maxRecDepth 100000
namespace Go.Proofs.YtckcaefnokeodaaGreatDoor
open Go.Proofs.Tryz Go.RowKit List World
theorem xP (w:World) (x y:Value) (t:TypeId):∀ j u,[x,y][j]?=some u->(w.alloc (.cells #[x,y] t)).cell? ((⟨w.heap.size,0,none⟩:Addr).add j)=some u:=by
 intro j u h
 match j,h with
 | 0,h=>simp at h;subst h;simp [Addr.add]
 | 1,h=>simp at h;subst h;simp [Addr.add]
theorem aEi (w:World) (x y z:Value) (t:TypeId):∀ j u,[x,y,z][j]?=some u->(w.alloc (.cells #[x,y,z] t)).cell? ((⟨w.heap.size,0,none⟩:Addr).add j)=some u:=by
 intro j u h
 match j,h with
 | 0,h=>simp at h;subst h;simp [Addr.add]
 | 1,h=>simp at h;subst h;simp [Addr.add]
 | 2,h=>simp at h;subst h;simp [Addr.add]
theorem aGc (w:World) (x y z s:Value) (t:TypeId):∀ j u,[x,y,z,s][j]?=some u->(w.alloc (.cells #[x,y,z,s] t)).cell? ((⟨w.heap.size,0,none⟩:Addr).add j)=some u:=by
 intro j u h
 match j,h with
 | 0,h=>simp at h;subst h;simp [Addr.add]
 | 1,h=>simp at h;subst h;simp [Addr.add]
 | 2,h=>simp at h;subst h;simp [Addr.add]
 | 3,h=>simp at h;subst h;simp [Addr.add]
theorem aBB (B:Nat) (v Z) (p:Int) (w:World) (O:B<=w.heap.size) (S:Tab w) (D:OwB B w v Z) (hn:Z.length<=8388608) (a7:0<=p) (a6:p<=1114111) :
  Calls prog 176 #[v,.int .i32 p] w fun e M=>∃ J,e=.returned J/\OwB B M J (Z++enc p)/\Below B w M:=by
 obtain ⟨Y,N,F,H,G⟩:=info_parts mA;have t1:=S.c1;have t2:=S.c2;have t3:=S.c3;clear S
 by_cases h1:p<128
 .have I:Hid (enc p=[p]):=yQ p h1;have hm:p%256=p:=by omega
  go_enter func176,ntmps176
  go_wp2_with (first
   | (at_builtin;refine wpList_append_own _ rfl _ _ 22 rfl B 5 Y (.int .u8 0) 1 1 underlying22 N F H G rfl (by decide) _ _ _ rfl (ownsRow.alloc D _) ⟨w.heap.size,0,none⟩ 1 1 [.int .u8 p] rfl rfl (cell_one_new _ _ _) (by intro u E;simp at E;subst E;rfl) (by unfold maxLen;omega) (by omega) (by simp;omega) ?_;intro J w1 h A _))
  have R:=cG (xs:=[p]) _ O D h (by simp) A;clear h A D;go_wp2;go_ret;exact ⟨_,rfl,by rw [I.out];exact R.1,R.2⟩
 .by_cases h2:p<2048
  .have I:Hid (enc p=[192+p / 64,128+p%64]):=aF0 p h1 h2;have hb:bits .or .u8 192 (p / 64)=192+p / 64:=aM0 _ (by omega) (by omega);have hm:p / 64%256=p / 64:=by omega
   go_enter func176,ntmps176
   go_wp2_with (first
    | (go_at_call 188;refine (vE _ _ (by omega) (by omega)).mono ?_;rintro e M ⟨rfl,rfl⟩)
    | (at_builtin;refine wpList_append_own _ rfl _ _ 22 rfl B 5 Y (.int .u8 0) 1 1 underlying22 N F H G rfl (by decide) _ _ _ rfl (ownsRow.alloc D _) ⟨w.heap.size,0,none⟩ 2 2 [.int .u8 (192+p / 64),.int .u8 (128+p%64)] rfl rfl (xP _ _ _ _) (by intro u E;simp at E;rcases E with rfl | rfl<;>rfl) (by unfold maxLen;omega) (by omega) (by simp;omega) ?_;intro J w1 h A _))
   have R:=cG (xs:=[192+p / 64,128+p%64]) _ O D h (by simp) A;clear h A D;go_wp2;go_ret;exact ⟨_,rfl,by rw [I.out];exact R.1,R.2⟩
  .by_cases h3:p<65536
   .have I:Hid (enc p=[224+p / 4096,128+p / 64%64,128+p%64]):=aFi p h2 h3;have hb:bits .or .u8 224 (p / 4096)=224+p / 4096:=aNj _ (by omega) (by omega);have hm:p / 4096%256=p / 4096:=by omega
    go_enter func176,ntmps176
    go_wp2_with (first
     | (go_at_call 188;refine (vE _ _ (by omega) (by omega)).mono ?_;rintro e M ⟨rfl,rfl⟩)
     | (at_builtin;refine wpList_append_own _ rfl _ _ 22 rfl B 5 Y (.int .u8 0) 1 1 underlying22 N F H G rfl (by decide) _ _ _ rfl (ownsRow.alloc D _) ⟨w.heap.size,0,none⟩ 3 3 [.int .u8 (224+p / 4096),.int .u8 (128+p / 64%64),.int .u8 (128+p%64)] rfl rfl (aEi _ _ _ _ _) (by intro u E;simp at E;rcases E with rfl | rfl | rfl<;>rfl) (by unfold maxLen;omega) (by omega) (by simp;omega) ?_;intro J w1 h A _))
    have R:=cG (xs:=[224+p / 4096,128+p / 64%64,128+p%64]) _ O D h (by simp) A;clear h A D;go_wp2;go_ret;exact ⟨_,rfl,by rw [I.out];exact R.1,R.2⟩
   .have I:Hid (enc p=[240+p / 262144,128+p / 4096%64,128+p / 64%64,128+p%64]):=aFx p h3;have hb:bits .or .u8 240 (p / 262144)=240+p / 262144:=aNb _ (by omega) (by omega);have hm:p / 262144%256=p / 262144:=by omega
    go_enter func176,ntmps176
    go_wp2_with (first
     | (go_at_call 188;refine (vE _ _ (by omega) (by omega)).mono ?_;rintro e M ⟨rfl,rfl⟩)
     | (at_builtin;refine wpList_append_own _ rfl _ _ 22 rfl B 5 Y (.int .u8 0) 1 1 underlying22 N F H G rfl (by decide) _ _ _ rfl (ownsRow.alloc D _) ⟨w.heap.size,0,none⟩ 4 4 [.int .u8 (240+p / 262144),.int .u8 (128+p / 4096%64),.int .u8 (128+p / 64%64),.int .u8 (128+p%64)] rfl rfl (aGc _ _ _ _ _ _) (by intro u E;simp at E;rcases E with rfl | rfl | rfl | rfl<;>rfl) (by unfold maxLen;omega) (by omega) (by simp;omega) ?_;intro J w1 h A _))
    have R:=cG (xs:=[240+p / 262144,128+p / 4096%64,128+p / 64%64,128+p%64]) _ O D h (by simp) A;clear h A D;go_wp2;go_ret;exact ⟨_,rfl,by rw [I.out];exact R.1,R.2⟩
theorem jO {p} (A:qU p=[]) (h:nQ p=true):gG p=dN p:=by simp [gG,A,h]
theorem aE9 {p} (A:qU p=[]) (h:nQ p=false):gG p=enc p:=by simp [gG,A,h]
theorem aEg {p:Int} (a:p≠8) (b:p≠12) (c:p≠10) (d:p≠13) (e:p≠9) (f:p≠34) (g:p≠92):qU p=[]:=by simp [qU,a,b,c,d,e,f,g]
theorem xS (B:Nat) (v ys) (p:Int) (w:World) (M:B<=w.heap.size) (hT:Tab w) (h:OwB B w v ys) (hn:ys.length<=8388000) (b0:0<=p) (c1:p<=1114111) :
  Calls prog 156 #[v,.int .i32 p] w fun e w'=>∃ v',e=.returned v'/\OwB B w' v' (ys++gG p)/\Below B w w':=by
 have c7:∀ (x:Bool) (w:World),(Op.unary .not (.bool x)).run prog w=.ok (.bool (!x)) w:=fun _ _=>rfl;obtain ⟨i0,hi,O,a0,Y⟩:=info_parts mA
 by_cases a3:p=34
 .subst a3
  go_enter func156,ntmps156
  go_wp2_with (at_builtin;refine wpList_append_own _ rfl _ _ 22 rfl B 5 i0 (.int .u8 0) 1 1 underlying22 hi O a0 Y rfl (by decide) _ _ _ rfl (ownsRow.alloc h _) ⟨w.heap.size,0,none⟩ 2 2 [.int .u8 92,.int .u8 34] rfl rfl (xP _ _ _ _) (by intro u hu;simp at hu;rcases hu with rfl | rfl<;>rfl) (by unfold maxLen;omega) (by omega) (by simp;omega) ?_;intro v' J N S _)
  have R:=cG (xs:=[92,34]) _ M h N (by simp) S;go_wp2;go_ret;exact ⟨_,rfl,R.1,R.2⟩
 by_cases a4:p=92
 .subst a4
  go_enter func156,ntmps156
  go_wp2_with (at_builtin;refine wpList_append_own _ rfl _ _ 22 rfl B 5 i0 (.int .u8 0) 1 1 underlying22 hi O a0 Y rfl (by decide) _ _ _ rfl (ownsRow.alloc h _) ⟨w.heap.size,0,none⟩ 2 2 [.int .u8 92,.int .u8 92] rfl rfl (xP _ _ _ _) (by intro u hu;simp at hu;rcases hu with rfl | rfl<;>rfl) (by unfold maxLen;omega) (by omega) (by simp;omega) ?_;intro v' J N S _)
  have R:=cG (xs:=[92,92]) _ M h N (by simp) S;go_wp2;go_ret;exact ⟨_,rfl,R.1,R.2⟩
 by_cases h8:p=8
 .subst h8
  go_enter func156,ntmps156
  go_wp2_with (at_builtin;refine Lib.wpList_append_own_string _ rfl _ _ 22 9 rfl B 5 i0 underlying22 underlying9 hi O a0 Y _ _ _ rfl h { data:=#[92,98] } rfl (by unfold maxLen;simp [ByteArray.size];omega) (by simp [ByteArray.size];omega) M ?_;intro Z J D A _)
  have E:OwB B J Z (ys++[92,98]):=iX _ rfl _ (by simp [ByteArray.size]) D;have H:=dA M h A;go_wp2;go_ret;exact ⟨_,rfl,E,H⟩
 by_cases a2:p=12
 .subst a2
  go_enter func156,ntmps156
  go_wp2_with (at_builtin;refine Lib.wpList_append_own_string _ rfl _ _ 22 9 rfl B 5 i0 underlying22 underlying9 hi O a0 Y _ _ _ rfl h { data:=#[92,102] } rfl (by unfold maxLen;simp [ByteArray.size];omega) (by simp [ByteArray.size];omega) M ?_;intro Z J D A _)
  have E:OwB B J Z (ys++[92,102]):=iX _ rfl _ (by simp [ByteArray.size]) D;have H:=dA M h A;go_wp2;go_ret;exact ⟨_,rfl,E,H⟩
 by_cases a6:p=10
 .subst a6
  go_enter func156,ntmps156
  go_wp2_with (at_builtin;refine Lib.wpList_append_own_string _ rfl _ _ 22 9 rfl B 5 i0 underlying22 underlying9 hi O a0 Y _ _ _ rfl h { data:=#[92,110] } rfl (by unfold maxLen;simp [ByteArray.size];omega) (by simp [ByteArray.size];omega) M ?_;intro Z J D A _)
  have E:OwB B J Z (ys++[92,110]):=iX _ rfl _ (by simp [ByteArray.size]) D;have H:=dA M h A;go_wp2;go_ret;exact ⟨_,rfl,E,H⟩
 by_cases a5:p=13
 .subst a5
  go_enter func156,ntmps156
  go_wp2_with (at_builtin;refine Lib.wpList_append_own_string _ rfl _ _ 22 9 rfl B 5 i0 underlying22 underlying9 hi O a0 Y _ _ _ rfl h { data:=#[92,114] } rfl (by unfold maxLen;simp [ByteArray.size];omega) (by simp [ByteArray.size];omega) M ?_;intro Z J D A _)
  have E:OwB B J Z (ys++[92,114]):=iX _ rfl _ (by simp [ByteArray.size]) D;have H:=dA M h A;go_wp2;go_ret;exact ⟨_,rfl,E,H⟩
 by_cases h9:p=9
 .subst h9
  go_enter func156,ntmps156
  go_wp2_with (at_builtin;refine Lib.wpList_append_own_string _ rfl _ _ 22 9 rfl B 5 i0 underlying22 underlying9 hi O a0 Y _ _ _ rfl h { data:=#[92,116] } rfl (by unfold maxLen;simp [ByteArray.size];omega) (by simp [ByteArray.size];omega) M ?_;intro Z J D A _)
  have E:OwB B J Z (ys++[92,116]):=iX _ rfl _ (by simp [ByteArray.size]) D;have H:=dA M h A;go_wp2;go_ret;exact ⟨_,rfl,E,H⟩
 by_cases I:p=127
 .subst I;have HQ:Hid (gG 127=dN 127):=jO rfl rfl;have HX:=aB (jP B v ys 127 w M h (by omega) (by omega) (by omega))
  go_enter func156,ntmps156
  go_wp2_with fail
  refine HX.out.mono ?_;rintro e J ⟨Z,rfl,E,H⟩;rw [<- HQ.out] at E;go_wp2;go_ret;exact ⟨_,rfl,E,H⟩
 by_cases F:p=8232
 .subst F;have HQ:Hid (gG 8232=dN 8232):=jO rfl rfl;have HX:=aB (jP B v ys 8232 w M h (by omega) (by omega) (by omega))
  go_enter func156,ntmps156
  go_wp2_with fail
  refine HX.out.mono ?_;rintro e J ⟨Z,rfl,E,H⟩;rw [<- HQ.out] at E;go_wp2;go_ret;exact ⟨_,rfl,E,H⟩
 by_cases G:p=8233
 .subst G;have HQ:Hid (gG 8233=dN 8233):=jO rfl rfl;have HX:=aB (jP B v ys 8233 w M h (by omega) (by omega) (by omega))
  go_enter func156,ntmps156
  go_wp2_with fail
  refine HX.out.mono ?_;rintro e J ⟨Z,rfl,E,H⟩;rw [<- HQ.out] at E;go_wp2;go_ret;exact ⟨_,rfl,E,H⟩
 have d3:(p==34)=false:=(by simpa using a3);have d1:(p==92)=false:=(by simpa using a4);have g8:(p==8)=false:=(by simpa using h8);have d2:(p==12)=false:=(by simpa using a2);have c8:(p==10)=false:=(by simpa using a6);have d0:(p==13)=false:=(by simpa using a5);have g9:(p==9)=false:=(by simpa using h9);have c6:(p==127)=false:=(by simpa using I);have c4:(p==8232)=false:=(by simpa using F);have c3:(p==8233)=false:=(by simpa using G);have hs:=aEg h8 a2 a6 a5 h9 a3 a4
 by_cases b9:p<32
 .have HQ:Hid (gG p=dN p):=jO hs (by simp [nQ,b9]);have HX:=aB (jP B v ys p w M h (by omega) b0 (by omega));clear a3 a4 h8 a2 a6 a5 h9 I F G hs
  go_enter func156,ntmps156
  go_wp2_with fail
  refine HX.out.mono ?_;rintro e J ⟨Z,rfl,E,H⟩;rw [<- HQ.out] at E;go_wp2;go_ret;exact ⟨_,rfl,E,H⟩
 .cases ho:cC p
  .have HQ:Hid (gG p=dN p):=jO hs (by simp [nQ,ho]);have c2:p<65536:=(by simp [cC] at ho;omega);have HX:=aB (jP B v ys p w M h (by omega) b0 c2);have HF:=aB (eY p);rw [ho] at HF;clear a3 a4 h8 a2 a6 a5 h9 I F G hs
   go_enter func156,ntmps156
   go_wp2_with fail
   refine (HF.out _).mono ?_;rintro e J ⟨rfl,rfl⟩
   go_wp2_with fail
   refine HX.out.mono ?_;rintro e J ⟨Z,rfl,E,H⟩;rw [<- HQ.out] at E;go_wp2;go_ret;exact ⟨_,rfl,E,H⟩
  .have HQ:Hid (gG p=enc p):=aE9 hs (by simp [nQ,ho,b9,I,F,G]);have HX:=aB (aBB B v ys p w M hT h (by omega) b0 c1);have HF:=aB (eY p);rw [ho] at HF;clear a3 a4 h8 a2 a6 a5 h9 I F G hs
   go_enter func156,ntmps156
   go_wp2_with fail
   refine (HF.out _).mono ?_;rintro e J ⟨rfl,rfl⟩
   go_wp2_with fail
   refine HX.out.mono ?_;rintro e J ⟨Z,rfl,E,H⟩;rw [<- HQ.out] at E;go_wp2;go_ret;exact ⟨_,rfl,E,H⟩
theorem vM (v A) (w:World) (hv:RdI w.heap.size w v A) (hn:A.length<=2097152) :
  Calls prog 155 #[v] w fun e w'=>∃ v',e=.returned (.tuple #[v',.int .i64 (fuR A).2])/\OwI w.heap.size w' v' (fuR A).1/\w.grownBy w' none:=by
 obtain ⟨i0,hi,a6,a8,a7⟩:=info_parts aAp;obtain ⟨a,f1,rfl,hr⟩:=hv;have d7:∀ (x:Bool) (w:World),(Op.unary .not (.bool x)).run prog w=.ok (.bool (!x)) w:=fun _ _=>rfl
 go_enter func155,ntmps155
 go_wp2_with (at_make;refine wpList_make_own _ rfl _ _ 35 rfl w.heap.size 3 i0 (.int .i64 0) 1 underlying35 hi a6 a8 _ _ _ A.length rfl rfl (by omega) ?b2 ?b3 (Nat.le_refl _) ?_)
 case b2=>rw [a7];omega
 case b3=>unfold maxLen;omega
 intro w0 a0 O;go_wp2
 go_loopw [4,5] (fun v i wr=>∃ (k:Nat) (I:List Int),k<=A.length/\i=.int .i64 k/\OwI w.heap.size wr v I/\I.length<=k/\I++fu (A.drop k)=fu A/\(A.take k).all cD=true/\Below w.heap.size w wr)
  (fun _ i _=>A.length - (intOf i).toNat)
 case atStart=>exact ⟨0,[],Nat.zero_le _,rfl,a0,Nat.le_refl _,by simp,rfl,aV O⟩
 case round=>
  obtain ⟨k,I,hk,rfl,D,d6,hx,J,G⟩:=hrel;clear a0 O
  by_cases Z:k<A.length
  .obtain ⟨b,b7,rfl,hb,hc⟩:=hr (fun h=>by simp [h] at Z);have c7:wr.cell? ⟨b,b7+k,none⟩=some (.int .i64 (A[k]?.getD 0)):=(G.cell (by exact hb)).trans (hc k Z);have N:k+1<A.length->wr.cell? ⟨b,b7+(k+1),none⟩=some (.int .i64 (A[k+1]?.getD 0)):=fun h=>(G.cell (by exact hb)).trans (hc (k+1) h);have h1:=aI6 A k Z;have h2:=aJb A k;have a2:=mH A cD k Z J;have M:∀ _:k+1<A.length,(A.take (k+1)).all cD=true->cD (A[k+1]?.getD 0)=true->(A.take (k+2)).all cD=true:=fun h=>mH A cD (k+1) h;have a5:=zY A cD k Z;generalize A[k]?.getD 0=p at c7 h1 h2 a2 a5;generalize A[k+1]?.getD 0=x at N h1 h2 M;clear hc hr J
   by_cases Y:cD p=true
   .have S:=a2 Y;clear a2 a5
    by_cases H:mL p=true/\k+1<A.length/\mV x=true
    .obtain ⟨hp,a1,a3⟩:=H;have HE:Hid (I++[qO p x]++fu (A.drop (k+2))=fu A):=aET hx (h2 a1 hp a3);have b4:=M a1 S (aNg a3);have b9:=N a1;have d0:55296<=p/\p<56320:=(by simpa [mL] using hp);have c3:56320<=x/\x<=57343:=(by simpa [mV] using a3);obtain ⟨d8,f2⟩:=d0;obtain ⟨d9,f5⟩:=c3;clear h1 h2 N hx M S;have HP:Hid (qO p x=65536+(p - 55296)*1024+(x - 56320)):=rfl
     go_wp2_with (first
      | (go_at_call 149;refine (fG _ _).mono ?_;rintro e w' ⟨rfl,rfl⟩;rw [Y])
      | (go_at_call 173;refine (qI _ _).mono ?_;rintro e w' ⟨rfl,rfl⟩;rw [hp])
      | (go_at_call 174;refine (xM _ _).mono ?_;rintro e w' ⟨rfl,rfl⟩;rw [a3])
      | (at_builtin;refine wpList_append_own _ rfl _ _ 35 rfl w.heap.size 3 i0 (.int .i64 0) 1 8 underlying35 hi a6 a8 a7 rfl (by decide) _ _ _ rfl (ownsRow.alloc D _) ⟨wr.heap.size,0,none⟩ 1 1 [.int .i64 (65536+(p - 55296)*1024+(x - 56320))] rfl rfl (cell_one_new _ _ _) (by intro u Y;simp at Y;subst Y;rfl) (by unfold maxLen;omega) (by omega) (by have:=G.size;simp;omega) ?_;intro v' w1 E F _))
     have R:=cG (xs:=[65536+(p - 55296)*1024+(x - 56320)]) _ G.size D E (by simp) F;clear E F D;go_wp2
     go_roundw
     case rel=>exact ⟨k+2,I++[65536+(p - 55296)*1024+(x - 56320)],by omega,by go_num,R.1,by simp;omega,by rw [<- HP.out];exact HE.out,b4,G.trans R.2⟩
     case measure=>simp [intOf];omega
    .have HE:Hid (I++[p]++fu (A.drop (k+1))=fu A):=aEB hx (h1 H)
     have b5:mL p=false\/(mL p=true/\A.length<=k+1)\/(mL p=true/\k+1<A.length/\mV x=false):=by
      cases h:mL p
      .exact .inl rfl
      .by_cases h3:k+1<A.length
       .cases h4:mV x
        .exact .inr (.inr ⟨rfl,h3,rfl⟩)
        .exact absurd ⟨h,h3,h4⟩ H
       .exact .inr (.inl ⟨rfl,by omega⟩)
     clear h1 h2 H hx M;rcases b5 with hw | ⟨hw,b8⟩ | ⟨hw,b8,d2⟩
     all_goals
      first
       | (have b9:=N b8;clear N)
       | clear N
      go_wp2_with (first
       | (go_at_call 149;refine (fG _ _).mono ?_;rintro e w' ⟨rfl,rfl⟩;rw [Y])
       | (go_at_call 173;refine (qI _ _).mono ?_;rintro e w' ⟨rfl,rfl⟩;rw [hw])
       | (go_at_call 174;refine (xM _ _).mono ?_;rintro e w' ⟨rfl,rfl⟩;rw [d2])
       | (at_builtin;refine wpList_append_own _ rfl _ _ 35 rfl w.heap.size 3 i0 (.int .i64 0) 1 8 underlying35 hi a6 a8 a7 rfl (by decide) _ _ _ rfl (ownsRow.alloc D _) ⟨wr.heap.size,0,none⟩ 1 1 [.int .i64 p] rfl rfl (cell_one_new _ _ _) (by intro u Y;simp at Y;subst Y;rfl) (by unfold maxLen;omega) (by omega) (by have:=G.size;simp;omega) ?_;intro v' w1 E F _))
      have R:=cG (xs:=[p]) _ G.size D E (by simp) F;clear E F D;go_wp2
      go_roundw
      case rel=>exact ⟨k+1,I++[p],by omega,by go_num,R.1,by simp;omega,HE.out,S,G.trans R.2⟩
      case measure=>simp [intOf];omega
   .have c0:cD p=false:=(by simpa using Y);have HF:Hid (A.all cD=false):=a5 c0;clear a2 a5 h1 h2 M N Y
    go_wp2_with (go_at_call 149;refine (fG _ _).mono ?_;rintro e w' ⟨rfl,rfl⟩;rw [c0])
    go_ret2;exact ⟨_,by rw [sS _ HF.out];rfl,by rw [sS _ HF.out];exact ownsRow_nil _ _ _ _,aC G⟩
  .have HF:Hid (A.all cD=true):=by
    unfold Hid;rw [take_of_length_le (by omega)] at J;exact J
   have hE:=aJH (by omega) hx;rw [hE] at D;clear hx hr hE J;go_wp2;go_ret2;exact ⟨_,by rw [aDh _ HF.out];rfl,by rw [aDh _ HF.out];exact D,aC G⟩
theorem aFf:∀ (n:Nat) (D:List Int),D.length<=n->D.all cD=true->∀ p∈fu D,0<=p/\p<=1114111
 | _,[],_,_=>by simp [fu]
 | _,[u],_,h=>by
   simp [cD] at h;simp [fu];omega
 | 0,_::_::_,hl,_=>by simp at hl
 | n+1,u::x::r,hl,h=>by
   simp only [all_cons,Bool.and_eq_true] at h;obtain ⟨G,H,E⟩:=h;have F:0<=u/\u<65536:=(by simpa [cD] using G);intro p A;simp only [fu] at A
   split at A
   .rename_i hh
    simp only [Bool.and_eq_true] at hh;have I:55296<=u/\u<56320:=(by simpa [mL] using hh.1);have J:56320<=x/\x<=57343:=(by simpa [mV] using hh.2);rcases mem_cons.1 A with rfl | A
    .unfold qO;omega
    .exact aFf n r (by simp at hl;omega) E p A
   .rcases mem_cons.1 A with rfl | A
    .omega
    .exact aFf n (x::r) (by simp at hl ⊢;omega) (by simp only [all_cons,H,E];rfl) p A
theorem aHZ (A) (h:(fuR A).2=0):∀ p∈(fuR A).1,0<=p/\p<=1114111:=by
 unfold fuR at h ⊢
 split at h
 .rename_i ha
  rw [if_pos ha];exact aFf _ A (Nat.le_refl _) ha
 .simp at h
theorem aDO (w:World) (z:Int):OwB w.heap.size (w.alloc (.cells #[.int .u8 z] 5)) (.slice (some ⟨w.heap.size,0,none⟩) 1 1) [z]:=
 ⟨rfl,.inr ⟨w.heap.size,1,#[.int .u8 z],rfl,Nat.le_refl _,heap_alloc_new w _,Nat.le_refl _,by unfold maxLen;omega,rfl,rfl⟩⟩
theorem aBI (v E w) (hT:Tab w) (hv:RdI w.heap.size w v E) (hn:E.length<=1048576) :
  Calls prog 136 #[v] w fun e w'=>∃ v',e=.returned (.tuple #[v',.int .i64 (quR E).2])/\OwB w.heap.size w' v' (quR E).1/\w.grownBy w' none:=by
 obtain ⟨i0,hi,b4,c1,b5⟩:=info_parts mA;have HF:=aB (vM v E w hv (by omega));have H:=aHZ E;have a6:=aDo E;have HQ:Hid (quR E=if (fuR E).2=0 then (34::kA (fuR E).1++[34],0) else ([],(fuR E).2)):=rfl;obtain ⟨a,d3,rfl,_⟩:=hv;generalize fuR E=f at HF H a6 HQ;obtain ⟨D,c⟩:=f;simp only at HF H a6 HQ
 by_cases S:c=0
 .subst S;have HB:=aB (H rfl);have HR:=aB (HQ.out.trans (if_pos rfl));clear H HQ
  go_enter func136,ntmps136
  go_wp2_with fail
  refine HF.out.mono ?_;rintro e O ⟨pv,rfl,o1,g1⟩;obtain ⟨a1,c3,b7,Y⟩:=o1.rd;subst b7;have a7:=aB (hT.K g1);have b3:=aB g1;have c0:=g1.size;clear hT HF o1;go_wp2
  go_loopw [6,20] (fun v i wr=>∃ k:Nat,k<=D.length/\i=.int .i64 k/\OwB O.heap.size wr v (34::kA (D.take k))/\Below O.heap.size O wr)
   (fun _ i _=>D.length - (intOf i).toNat)
  case atStart=>exact ⟨0,Nat.zero_le _,rfl,aDO O 34,iW O _⟩
  case round=>
   obtain ⟨k,hk,rfl,A,I⟩:=hrel;have N:=aA8 (D.take k);rw [length_take_of_le hk] at N;have b0:=I.size;have Z:=a7.out.below I a7.out.pos
   by_cases M:k<D.length
   .obtain ⟨b,b9,rfl,hb,S⟩:=Y (fun h=>by simp [h] at M);have b6:wr.cell? ⟨b,b9+k,none⟩=some (.int .i64 (D[k]?.getD 0)):=(I.cell (by exact hb)).trans (S k M);have a0:=aCH D k M;have J:=HB.out (D[k]?.getD 0) (by simp [M]);generalize D[k]?.getD 0=p at b6 a0 J;have HE:Hid (34::kA (D.take (k+1))=(34::kA (D.take k))++gG p):=(by rw [Hid,a0];rfl);have HX:=aB (xS O.heap.size _ _ p wr b0 Z A (by simp;omega) J.1 J.2);obtain ⟨d1,c9⟩:=J;have d7:IntKind.i32.wrap p=p:=nS p (by omega) (by omega);clear a0 S Y A Z
    go_wp2_with fail
    refine HX.out.mono ?_;rintro e w2 ⟨v2,rfl,o2,b2⟩;rw [<- HE.out] at o2;go_wp2
    go_roundw
    case rel=>exact ⟨k+1,by omega,by go_num,o2,I.trans b2⟩
    case measure=>simp [intOf];omega
   .have a8:k=D.length:=(by omega);rw [a8,take_length] at A N;clear Y a8 Z;have a5:(34::kA D).length=(kA D).length+1:=by simp
    go_wp2_with (at_builtin;refine wpList_append_own _ rfl _ _ 22 rfl O.heap.size 5 i0 (.int .u8 0) 1 1 underlying22 hi b4 c1 b5 rfl (by decide) _ _ _ rfl (ownsRow.alloc A _) ⟨wr.heap.size,0,none⟩ 1 1 [.int .u8 34] rfl rfl (cell_one_new _ _ _) (by intro u hu;simp at hu;subst hu;rfl) (by rw [a5];unfold maxLen;omega) (by rw [a5];omega) (by simp;omega) ?_;intro v' w2 F G _)
    have R:=cG (xs:=[34]) _ b0 A F (by simp) G;clear F G A;go_wp2;go_ret2;refine ⟨_,by rw [HR.out];rfl,?_,?_⟩
    .rw [HR.out];exact gP c0 R.1
    .exact aA b3.out (aC (I.trans R.2))
 .have HR:=aB (HQ.out.trans (if_neg S));have f1:(c != 0)=true:=(by simpa using S);clear H HQ S
  go_enter func136,ntmps136
  go_wp2_with fail
  refine HF.out.mono ?_;rintro e O ⟨pv,rfl,o1,g1⟩;go_wp2;go_ret2;exact ⟨_,by rw [HR.out];rfl,by rw [HR.out];exact ownsRow_nil _ _ _ _,g1⟩
section
attribute [-go_sem] run_index_string
theorem aLc {p} (h:cC p=false):cP p=0:=by simp [cP,h]
theorem aLv (w:World) (a b c d e f:Int):OwB w.heap.size (w.alloc (.cells #[.int .u8 a,.int .u8 b,.int .u8 c,.int .u8 d,.int .u8 e,.int .u8 f] 5)) (.slice (some ⟨w.heap.size,0,none⟩) 6 6) [a,b,c,d,e,f]:=
 ⟨rfl,.inr ⟨w.heap.size,6,_,rfl,Nat.le_refl _,heap_alloc_new w _,Nat.le_refl _,by unfold maxLen;omega,rfl,rfl⟩⟩
theorem rH (p:Int) (w) (F:0<=p) (E:p<65536) :
  Calls prog 123 #[.int .i64 p] w fun e D=>∃ A,e=.returned A/\OwB w.heap.size D A (dN p)/\Below w.heap.size w D:=by
 have h:=fun q=>aLl q;unfold aBM at h;have H:=fun W=>h (p / 4096) W;have G:=fun W=>h (p / 256) W;have J:=fun W=>h (p / 16) W;have I:=fun W=>h p W;clear h
 go_enter func123,ntmps123
 go_wp2_with fail
 go_region
 all_goals
  go_wp2;go_ret;exact ⟨_,rfl,aLv w _ _ _ _ _ _,⟨rfl,rfl,rfl,(iW w _).size,(iW w _).block⟩⟩
theorem sK {B:Nat} {w E:World} {v G D} {F:List Int} (H:B<=w.heap.size) (I:OwB B w v D) (h:E.ownsRow B 5 1 G (D.length+F.length) (D.map (Value.int .u8)++F.map (Value.int .u8))) (A:w.grownBy E v.ownBlock) :
  OwB B E G (D++F)/\Below B w E:=by
 refine ⟨?_,dA H I A⟩;unfold OwB Ow;rw [length_append,map_append];exact h
theorem tN (v zs) (w:World) (hv:RdI w.heap.size w v zs) (hn:zs.length<=1048576) :
  Calls prog 82 #[v] w fun e w'=>∃ v',e=.returned (.tuple #[v',.int .i64 (quR zs).2])/\OwB w.heap.size w' v' (quR zs).1/\w.grownBy w' none:=by
 obtain ⟨i0,hi,a6,a8,a7⟩:=info_parts mA;have HF:=aB (oK v zs w hv (by omega));have d2:=aHZ zs;have f9:=aDo zs;have HQ:Hid (quR zs=if (fuR zs).2=0 then (34::kA (fuR zs).1++[34],0) else ([],(fuR zs).2)):=rfl;obtain ⟨a,J,rfl,_⟩:=hv;generalize fuR zs=f at HF d2 f9 HQ;obtain ⟨ps,c⟩:=f;simp only at HF d2 f9 HQ
 by_cases hc:c=0
 .subst hc;have HB:=aB (d2 rfl);have HR:=aB (HQ.out.trans (if_pos rfl));clear d2 HQ
  go_enter func82,ntmps82
  go_wp2_with fail
  refine HF.out.mono ?_;rintro e w1 ⟨pv,rfl,Y,g1⟩;obtain ⟨a1,Z,h5,f4⟩:=Y.rd;subst h5;have h4:=aB g1;have i3:=g1.size;clear HF Y;go_wp2
  go_loopw [6,7] (fun v i wr=>∃ k:Nat,k<=ps.length/\i=.int .i64 k/\OwB w1.heap.size wr v (34::kA (ps.take k))/\Below w1.heap.size w1 wr)
   (fun _ i _=>ps.length - (intOf i).toNat)
  case atStart=>exact ⟨0,Nat.zero_le _,rfl,aDO w1 34,iW w1 _⟩
  case round=>
   obtain ⟨k,hk,rfl,A,O⟩:=hrel;have d3:=aA8 (ps.take k);rw [length_take_of_le hk] at d3;have d1:(34::kA (ps.take k)).length=(kA (ps.take k)).length+1:=(by simp);have S:=O.size
   by_cases f1:k<ps.length
   .obtain ⟨b,i1,rfl,hb,hc⟩:=f4 (fun h=>by simp [h] at f1);have h7:wr.cell? ⟨b,i1+k,none⟩=some (.int .i64 (ps[k]?.getD 0)):=(O.cell (by exact hb)).trans (hc k f1);have f6:=aCH ps k f1;have g3:=HB.out (ps[k]?.getD 0) (by simp [f1]);generalize ps[k]?.getD 0=p at h7 f6 g3;have HE:Hid (34::kA (ps.take (k+1))=(34::kA (ps.take k))++gG p):=(by rw [Hid,f6];rfl);obtain ⟨c7,j5⟩:=g3;clear f6 hc f4;generalize i2:34::kA (ps.take k)=ys at A HE d1;have i8:ys.length<=6291457:=(by omega);clear i2 d1 d3
    by_cases h8:p=8
    .subst h8
     go_wp2_with (at_builtin;refine Lib.wpList_append_own_string _ rfl _ _ 22 9 rfl w1.heap.size 5 i0 underlying22 underlying9 hi a6 a8 a7 _ _ _ rfl A { data:=#[92,98] } rfl (by unfold maxLen;simp [ByteArray.size];omega) (by simp [ByteArray.size];omega) S ?_;intro v2 w2 H D _)
     have o2:OwB w1.heap.size w2 v2 (ys++gG 8):=iX _ rfl _ (by simp [ByteArray.size];rfl) H;have b2:=dA S A D;rw [<- HE.out] at o2;clear H D A;go_wp2
     go_roundw
     case rel=>exact ⟨k+1,by omega,by go_num,o2,O.trans b2⟩
     case measure=>simp [intOf];omega
    by_cases d5:p=12
    .subst d5
     go_wp2_with (at_builtin;refine Lib.wpList_append_own_string _ rfl _ _ 22 9 rfl w1.heap.size 5 i0 underlying22 underlying9 hi a6 a8 a7 _ _ _ rfl A { data:=#[92,102] } rfl (by unfold maxLen;simp [ByteArray.size];omega) (by simp [ByteArray.size];omega) S ?_;intro v2 w2 H D _)
     have o2:OwB w1.heap.size w2 v2 (ys++gG 12):=iX _ rfl _ (by simp [ByteArray.size];rfl) H;have b2:=dA S A D;rw [<- HE.out] at o2;clear H D A;go_wp2
     go_roundw
     case rel=>exact ⟨k+1,by omega,by go_num,o2,O.trans b2⟩
     case measure=>simp [intOf];omega
    by_cases d9:p=10
    .subst d9
     go_wp2_with (at_builtin;refine Lib.wpList_append_own_string _ rfl _ _ 22 9 rfl w1.heap.size 5 i0 underlying22 underlying9 hi a6 a8 a7 _ _ _ rfl A { data:=#[92,110] } rfl (by unfold maxLen;simp [ByteArray.size];omega) (by simp [ByteArray.size];omega) S ?_;intro v2 w2 H D _)
     have o2:OwB w1.heap.size w2 v2 (ys++gG 10):=iX _ rfl _ (by simp [ByteArray.size];rfl) H;have b2:=dA S A D;rw [<- HE.out] at o2;clear H D A;go_wp2
     go_roundw
     case rel=>exact ⟨k+1,by omega,by go_num,o2,O.trans b2⟩
     case measure=>simp [intOf];omega
    by_cases d8:p=13
    .subst d8
     go_wp2_with (at_builtin;refine Lib.wpList_append_own_string _ rfl _ _ 22 9 rfl w1.heap.size 5 i0 underlying22 underlying9 hi a6 a8 a7 _ _ _ rfl A { data:=#[92,114] } rfl (by unfold maxLen;simp [ByteArray.size];omega) (by simp [ByteArray.size];omega) S ?_;intro v2 w2 H D _)
     have o2:OwB w1.heap.size w2 v2 (ys++gG 13):=iX _ rfl _ (by simp [ByteArray.size];rfl) H;have b2:=dA S A D;rw [<- HE.out] at o2;clear H D A;go_wp2
     go_roundw
     case rel=>exact ⟨k+1,by omega,by go_num,o2,O.trans b2⟩
     case measure=>simp [intOf];omega
    by_cases h9:p=9
    .subst h9
     go_wp2_with (at_builtin;refine Lib.wpList_append_own_string _ rfl _ _ 22 9 rfl w1.heap.size 5 i0 underlying22 underlying9 hi a6 a8 a7 _ _ _ rfl A { data:=#[92,116] } rfl (by unfold maxLen;simp [ByteArray.size];omega) (by simp [ByteArray.size];omega) S ?_;intro v2 w2 H D _)
     have o2:OwB w1.heap.size w2 v2 (ys++gG 9):=iX _ rfl _ (by simp [ByteArray.size];rfl) H;have b2:=dA S A D;rw [<- HE.out] at o2;clear H D A;go_wp2
     go_roundw
     case rel=>exact ⟨k+1,by omega,by go_num,o2,O.trans b2⟩
     case measure=>simp [intOf];omega
    by_cases d7:p=34
    .subst d7
     go_wp2_with (at_builtin;refine Lib.wpList_append_own_string _ rfl _ _ 22 9 rfl w1.heap.size 5 i0 underlying22 underlying9 hi a6 a8 a7 _ _ _ rfl A { data:=#[92,34] } rfl (by unfold maxLen;simp [ByteArray.size];omega) (by simp [ByteArray.size];omega) S ?_;intro v2 w2 H D _)
     have o2:OwB w1.heap.size w2 v2 (ys++gG 34):=iX _ rfl _ (by simp [ByteArray.size];rfl) H;have b2:=dA S A D;rw [<- HE.out] at o2;clear H D A;go_wp2
     go_roundw
     case rel=>exact ⟨k+1,by omega,by go_num,o2,O.trans b2⟩
     case measure=>simp [intOf];omega
    by_cases d6:p=92
    .subst d6
     go_wp2_with (at_builtin;refine Lib.wpList_append_own_string _ rfl _ _ 22 9 rfl w1.heap.size 5 i0 underlying22 underlying9 hi a6 a8 a7 _ _ _ rfl A { data:=#[92,92] } rfl (by unfold maxLen;simp [ByteArray.size];omega) (by simp [ByteArray.size];omega) S ?_;intro v2 w2 H D _)
     have o2:OwB w1.heap.size w2 v2 (ys++gG 92):=iX _ rfl _ (by simp [ByteArray.size];rfl) H;have b2:=dA S A D;rw [<- HE.out] at o2;clear H D A;go_wp2
     go_roundw
     case rel=>exact ⟨k+1,by omega,by go_num,o2,O.trans b2⟩
     case measure=>simp [intOf];omega
    have g8:(p==8)=false:=(by simpa using h8);have j4:(p==12)=false:=(by simpa using d5);have j2:(p==10)=false:=(by simpa using d9);have j6:(p==13)=false:=(by simpa using d8);have g9:(p==9)=false:=(by simpa using h9);have j8:(p==34)=false:=(by simpa using d7);have j3:(p==92)=false:=(by simpa using d6);have hs:=aEg h8 d5 d9 d8 h9 d7 d6;clear h8 d5 d9 d8 h9 d7 d6;have b8:=aB (jZ p)
    by_cases g2:p<32
    .have HQ:Hid (gG p=dN p):=jO hs (by simp [nQ,g2]);have HX:=aB (rH p wr c7 (by omega));clear hs b8
     go_wp2_with fail
     refine HX.out.mono ?_;rintro e w2 ⟨t1,rfl,Y,b1⟩;have E:OwB w1.heap.size w2 u6 ys:=Ow.later A (aC b1);have I:=O.trans (b1.mono S)
     have b3:∃ g J,∃ t',t'=Value.slice (some ⟨g,0,none⟩) (dN p).length J/\t'=t1:=by
      rcases Y.2 with ⟨_,h⟩ | ⟨g,J,d4,h,_⟩
      .exfalso;have e:=(rfl:(dN p).length=6);first | omega | (simp [dN] at h)
      .exact ⟨g,J,_,rfl,h.symm⟩
     obtain ⟨g,Z,t',M,N⟩:=b3;rw [<- N] at Y;rw [<- N,M];rw [M] at Y;have a2:=ownsRow.cells Y (g:=g) rfl;have a0:=I.size;have c9:(dN p).length<=6:=Nat.le_of_eq rfl;clear N M A O b1
     go_wp2_with (at_builtin;refine wpList_append_own _ rfl _ _ 22 rfl w1.heap.size 5 i0 (.int .u8 0) 1 1 underlying22 hi a6 a8 a7 rfl (by decide) _ _ _ rfl E ⟨g,0,none⟩ (dN p).length Z ((dN p).map (Value.int .u8)) rfl (by simp) a2 (ints_oneCell _ _) (by unfold maxLen;omega) (by omega) a0 ?_;intro v' w3 G F _)
     have R:=sK a0 E G F;rw [<- HQ.out,<- HE.out] at R;clear G F E a2 Y;go_wp2
     go_roundw
     case rel=>exact ⟨k+1,by omega,by go_num,R.1,I.trans R.2⟩
     case measure=>simp [intOf];omega
    by_cases b4:p=127
    .have HQ:Hid (gG p=dN p):=jO hs (by simp [nQ,b4]);have g6:(p==127)=true:=(by simp [b4]);have HX:=aB (rH p wr c7 (by omega));clear hs b8 b4
     go_wp2_with fail
     refine HX.out.mono ?_;rintro e w2 ⟨t1,rfl,Y,b1⟩;have E:OwB w1.heap.size w2 u6 ys:=Ow.later A (aC b1);have I:=O.trans (b1.mono S)
     have b3:∃ g J,∃ t',t'=Value.slice (some ⟨g,0,none⟩) (dN p).length J/\t'=t1:=by
      rcases Y.2 with ⟨_,h⟩ | ⟨g,J,d4,h,_⟩
      .exfalso;have e:=(rfl:(dN p).length=6);first | omega | (simp [dN] at h)
      .exact ⟨g,J,_,rfl,h.symm⟩
     obtain ⟨g,Z,t',M,N⟩:=b3;rw [<- N] at Y;rw [<- N,M];rw [M] at Y;have a2:=ownsRow.cells Y (g:=g) rfl;have a0:=I.size;have c9:(dN p).length<=6:=Nat.le_of_eq rfl;clear N M A O b1
     go_wp2_with (at_builtin;refine wpList_append_own _ rfl _ _ 22 rfl w1.heap.size 5 i0 (.int .u8 0) 1 1 underlying22 hi a6 a8 a7 rfl (by decide) _ _ _ rfl E ⟨g,0,none⟩ (dN p).length Z ((dN p).map (Value.int .u8)) rfl (by simp) a2 (ints_oneCell _ _) (by unfold maxLen;omega) (by omega) a0 ?_;intro v' w3 G F _)
     have R:=sK a0 E G F;rw [<- HQ.out,<- HE.out] at R;clear G F E a2 Y;go_wp2
     go_roundw
     case rel=>exact ⟨k+1,by omega,by go_num,R.1,I.trans R.2⟩
     case measure=>simp [intOf];omega
    have g6:(p==127)=false:=by simpa using b4
    by_cases a4:p=8232
    .have HQ:Hid (gG p=dN p):=jO hs (by simp [nQ,a4]);have f3:(p==8232)=true:=(by simp [a4]);have HX:=aB (rH p wr c7 (by omega));clear hs b8 a4
     go_wp2_with fail
     refine HX.out.mono ?_;rintro e w2 ⟨t1,rfl,Y,b1⟩;have E:OwB w1.heap.size w2 u6 ys:=Ow.later A (aC b1);have I:=O.trans (b1.mono S)
     have b3:∃ g J,∃ t',t'=Value.slice (some ⟨g,0,none⟩) (dN p).length J/\t'=t1:=by
      rcases Y.2 with ⟨_,h⟩ | ⟨g,J,d4,h,_⟩
      .exfalso;have e:=(rfl:(dN p).length=6);first | omega | (simp [dN] at h)
      .exact ⟨g,J,_,rfl,h.symm⟩
     obtain ⟨g,Z,t',M,N⟩:=b3;rw [<- N] at Y;rw [<- N,M];rw [M] at Y;have a2:=ownsRow.cells Y (g:=g) rfl;have a0:=I.size;have c9:(dN p).length<=6:=Nat.le_of_eq rfl;clear N M A O b1
     go_wp2_with (at_builtin;refine wpList_append_own _ rfl _ _ 22 rfl w1.heap.size 5 i0 (.int .u8 0) 1 1 underlying22 hi a6 a8 a7 rfl (by decide) _ _ _ rfl E ⟨g,0,none⟩ (dN p).length Z ((dN p).map (Value.int .u8)) rfl (by simp) a2 (ints_oneCell _ _) (by unfold maxLen;omega) (by omega) a0 ?_;intro v' w3 G F _)
     have R:=sK a0 E G F;rw [<- HQ.out,<- HE.out] at R;clear G F E a2 Y;go_wp2
     go_roundw
     case rel=>exact ⟨k+1,by omega,by go_num,R.1,I.trans R.2⟩
     case measure=>simp [intOf];omega
    have f3:(p==8232)=false:=by simpa using a4
    by_cases a5:p=8233
    .have HQ:Hid (gG p=dN p):=jO hs (by simp [nQ,a5]);have f5:(p==8233)=true:=(by simp [a5]);have HX:=aB (rH p wr c7 (by omega));clear hs b8 a5
     go_wp2_with fail
     refine HX.out.mono ?_;rintro e w2 ⟨t1,rfl,Y,b1⟩;have E:OwB w1.heap.size w2 u6 ys:=Ow.later A (aC b1);have I:=O.trans (b1.mono S)
     have b3:∃ g J,∃ t',t'=Value.slice (some ⟨g,0,none⟩) (dN p).length J/\t'=t1:=by
      rcases Y.2 with ⟨_,h⟩ | ⟨g,J,d4,h,_⟩
      .exfalso;have e:=(rfl:(dN p).length=6);first | omega | (simp [dN] at h)
      .exact ⟨g,J,_,rfl,h.symm⟩
     obtain ⟨g,Z,t',M,N⟩:=b3;rw [<- N] at Y;rw [<- N,M];rw [M] at Y;have a2:=ownsRow.cells Y (g:=g) rfl;have a0:=I.size;have c9:(dN p).length<=6:=Nat.le_of_eq rfl;clear N M A O b1
     go_wp2_with (at_builtin;refine wpList_append_own _ rfl _ _ 22 rfl w1.heap.size 5 i0 (.int .u8 0) 1 1 underlying22 hi a6 a8 a7 rfl (by decide) _ _ _ rfl E ⟨g,0,none⟩ (dN p).length Z ((dN p).map (Value.int .u8)) rfl (by simp) a2 (ints_oneCell _ _) (by unfold maxLen;omega) (by omega) a0 ?_;intro v' w3 G F _)
     have R:=sK a0 E G F;rw [<- HQ.out,<- HE.out] at R;clear G F E a2 Y;go_wp2
     go_roundw
     case rel=>exact ⟨k+1,by omega,by go_num,R.1,I.trans R.2⟩
     case measure=>simp [intOf];omega
    have f5:(p==8233)=false:=(by simpa using a5);cases ho:cC p
    .have HQ:Hid (gG p=dN p):=jO hs (by simp [nQ,ho]);have g0:p<65536:=(by simp [cC] at ho;omega);have HX:=aB (rH p wr c7 g0);have g7:cP p=0:=aLc ho;rw [g7] at b8;clear hs b4 a4 a5
     go_wp2_with fail
     refine (b8.out _).mono ?_;rintro e w9 ⟨rfl,rfl⟩
     go_wp2_with fail
     refine HX.out.mono ?_;rintro e w2 ⟨t1,rfl,Y,b1⟩;have E:OwB w1.heap.size w2 u6 ys:=Ow.later A (aC b1);have I:=O.trans (b1.mono S)
     have b3:∃ g J,∃ t',t'=Value.slice (some ⟨g,0,none⟩) (dN p).length J/\t'=t1:=by
      rcases Y.2 with ⟨_,h⟩ | ⟨g,J,d4,h,_⟩
      .exfalso;have e:=(rfl:(dN p).length=6);first | omega | (simp [dN] at h)
      .exact ⟨g,J,_,rfl,h.symm⟩
     obtain ⟨g,Z,t',M,N⟩:=b3;rw [<- N] at Y;rw [<- N,M];rw [M] at Y;have a2:=ownsRow.cells Y (g:=g) rfl;have a0:=I.size;have c9:(dN p).length<=6:=Nat.le_of_eq rfl;clear N M A O b1
     go_wp2_with (at_builtin;refine wpList_append_own _ rfl _ _ 22 rfl w1.heap.size 5 i0 (.int .u8 0) 1 1 underlying22 hi a6 a8 a7 rfl (by decide) _ _ _ rfl E ⟨g,0,none⟩ (dN p).length Z ((dN p).map (Value.int .u8)) rfl (by simp) a2 (ints_oneCell _ _) (by unfold maxLen;omega) (by omega) a0 ?_;intro v' w3 G F _)
     have R:=sK a0 E G F;rw [<- HQ.out,<- HE.out] at R;clear G F E a2 Y;go_wp2
     go_roundw
     case rel=>exact ⟨k+1,by omega,by go_num,R.1,I.trans R.2⟩
     case measure=>simp [intOf];omega
    .have HQ:Hid (gG p=enc p):=aE9 hs (by simp [nQ,ho,g2,b4,a4,a5]);have HX:=aB (aCR p wr ho);have g7:(cP p==0)=false:=(by have:=aC8 p ho;simp;omega);have h6:=xF p;clear hs b4 a4 a5
     go_wp2_with fail
     refine (b8.out _).mono ?_;rintro e w9 ⟨rfl,rfl⟩
     go_wp2_with fail
     refine HX.out.mono ?_;rintro e w2 ⟨t1,rfl,Y,b1⟩;have E:OwB w1.heap.size w2 u6 ys:=Ow.later A (aC b1);have I:=O.trans (b1.mono S)
     have b3:∃ g J,∃ t',t'=Value.slice (some ⟨g,0,none⟩) (enc p).length J/\t'=t1:=by
      rcases Y.2 with ⟨_,h⟩ | ⟨g,J,d4,h,_⟩
      .exfalso;have e:=h6;first | omega | (simp [dN] at h)
      .exact ⟨g,J,_,rfl,h.symm⟩
     obtain ⟨g,Z,t',M,N⟩:=b3;rw [<- N] at Y;rw [<- N,M];rw [M] at Y;have a2:=ownsRow.cells Y (g:=g) rfl;have a0:=I.size;have c9:(enc p).length<=6:=(by omega);clear N M A O b1
     go_wp2_with (at_builtin;refine wpList_append_own _ rfl _ _ 22 rfl w1.heap.size 5 i0 (.int .u8 0) 1 1 underlying22 hi a6 a8 a7 rfl (by decide) _ _ _ rfl E ⟨g,0,none⟩ (enc p).length Z ((enc p).map (Value.int .u8)) rfl (by simp) a2 (ints_oneCell _ _) (by unfold maxLen;omega) (by omega) a0 ?_;intro v' w3 G F _)
     have R:=sK a0 E G F;rw [<- HQ.out,<- HE.out] at R;clear G F E a2 Y;go_wp2
     go_roundw
     case rel=>exact ⟨k+1,by omega,by go_num,R.1,I.trans R.2⟩
     case measure=>simp [intOf];omega
   .have h0:k=ps.length:=(by omega);rw [h0,take_length] at A d3 d1;clear f4 h0
    go_wp2_with (at_builtin;refine wpList_append_own _ rfl _ _ 22 rfl w1.heap.size 5 i0 (.int .u8 0) 1 1 underlying22 hi a6 a8 a7 rfl (by decide) _ _ _ rfl (ownsRow.alloc A _) ⟨wr.heap.size,0,none⟩ 1 1 [.int .u8 34] rfl rfl (cell_one_new _ _ _) (by intro u hu;simp at hu;subst hu;rfl) (by rw [d1];unfold maxLen;omega) (by rw [d1];omega) (by simp;omega) ?_;intro v' w2 G F _)
    have R:=cG (xs:=[34]) _ S A G (by simp) F;clear G F A;go_wp2;go_ret2;refine ⟨_,by rw [HR.out];rfl,?_,?_⟩
    .rw [HR.out];exact gP i3 R.1
    .exact aA h4.out (aC (O.trans R.2))
 .have HR:=aB (HQ.out.trans (if_neg hc));have j1:(c != 0)=true:=(by simpa using hc);clear d2 HQ hc
  go_enter func82,ntmps82
  go_wp2_with fail
  refine HF.out.mono ?_;rintro e w1 ⟨pv,rfl,Y,g1⟩;go_wp2;go_ret2;exact ⟨_,by rw [HR.out];rfl,by rw [HR.out];exact ownsRow_nil _ _ _ _,g1⟩
end
theorem mY (p:Int) (w):Calls prog 127 #[.int .i64 p] w fun e J=>e=.returned (.bool (iS p))/\w=J:=by
 by_cases h:iS p=true
 .have A:Hid (iS p=true):=h;have D:(97<=p/\p<=122)\/(65<=p/\p<=90)\/p=95\/p=36:=(by simpa [iS] using h);clear h;rcases D with ⟨G,F⟩ | ⟨G,F⟩ | rfl | rfl
  .have E:¬ p<=90:=(by omega);have H:65<=p:=by omega
   go_enter func127,ntmps127
   go_wp2;go_ret;exact ⟨by rw [A.out];rfl,rfl⟩
  .have E:¬ 97<=p:=by omega
   go_enter func127,ntmps127
   go_wp2;go_ret;exact ⟨by rw [A.out];rfl,rfl⟩
  all_goals
   go_enter func127,ntmps127
   go_wp2;go_ret;exact ⟨rfl,rfl⟩
 .have A:Hid (iS p=false):=(by simpa [Hid] using h);have D:¬ ((97<=p/\p<=122)\/(65<=p/\p<=90)\/p=95\/p=36):=(by simpa [iS] using h);clear h;have I:(p==95)=false:=(by simp;omega);have M:(p==36)=false:=by simp;omega
  by_cases G:65<=p
  .have F:¬ p<=90:=by omega
   by_cases E:97<=p
   .have H:¬ p<=122:=(by omega);clear D
    go_enter func127,ntmps127
    go_wp2;go_ret;exact ⟨by rw [A.out];rfl,rfl⟩
   .clear D
    go_enter func127,ntmps127
    go_wp2;go_ret;exact ⟨by rw [A.out];rfl,rfl⟩
  .have E:¬ 97<=p:=(by omega);clear D
   go_enter func127,ntmps127
   go_wp2;go_ret;exact ⟨by rw [A.out];rfl,rfl⟩
theorem aBw (v A) (w:World) (hv:RdI w.heap.size w v A) (hn:A.length<=2097152) :
  Calls prog 90 #[v] w fun e J=>e=.returned (.bool (nmR A))/\w=J:=by
 obtain ⟨a,a4,rfl,S⟩:=hv;have a2:∀ (x:Bool) (w:World),(Op.unary .not (.bool x)).run prog w=.ok (.bool (!x)) w:=fun _ _=>rfl
 go_enter func90,ntmps90
 go_wp2
 go_loopw [3] (fun i wr=>∃ k:Nat,k<=A.length/\i=.int .i64 k/\uR A k=true/\w=wr)
  (fun i _=>A.length - (intOf i).toNat)
 case atStart=>exact ⟨0,Nat.zero_le _,rfl,rfl,rfl⟩
 case round=>
  obtain ⟨k,hk,rfl,F,rfl⟩:=hrel
  by_cases I:k<A.length
  .obtain ⟨b,a5,rfl,hb,hc⟩:=S (fun h=>by simp [h] at I);have Y:=hc k I;have D:=aB (aB5 A k F);have E:=aB (aGH A k I);generalize A[k]?.getD 0=p at Y D E;clear hc S;cases H:iS p
   .by_cases G:k=0
    .have Z:((k:Int)==0)=true:=(by simp [G]);have M:Hid (nmR A=false):=E.out (by simp [xG,H,G]);have HK:=aB G;clear D E G
     go_wp2_with (first
      | (go_at_call 127;refine (mY _ _).mono ?_;rintro e J ⟨rfl,rfl⟩;rw [H]))
     go_ret;exact ⟨by rw [M.out];rfl,rfl⟩
    .have Z:((k:Int)==0)=false:=(by simp;omega);cases O:aK p
     .have M:Hid (nmR A=false):=E.out (by simp [xG,H,O]);clear D E
      go_wp2_with (first
       | (go_at_call 127;refine (mY _ _).mono ?_;rintro e J ⟨rfl,rfl⟩;rw [H])
       | (go_at_call 128;refine (eF _ _).mono ?_;rintro e J ⟨rfl,rfl⟩;rw [O]))
      go_ret;exact ⟨by rw [M.out];rfl,rfl⟩
     .have HT:Hid (uR A (k+1)=true):=D.out (by simp [xG,H,O,G]);clear D E
      go_wp2_with (first
       | (go_at_call 127;refine (mY _ _).mono ?_;rintro e J ⟨rfl,rfl⟩;rw [H])
       | (go_at_call 128;refine (eF _ _).mono ?_;rintro e J ⟨rfl,rfl⟩;rw [O]))
      go_roundw
      case rel=>exact ⟨k+1,by omega,by go_num,HT.out,trivial⟩
      case measure=>simp [intOf];omega
   .have HT:Hid (uR A (k+1)=true):=D.out (by simp [xG,H]);clear D E
    go_wp2_with (first
     | (go_at_call 127;refine (mY _ _).mono ?_;rintro e J ⟨rfl,rfl⟩;rw [H]))
    go_roundw
    case rel=>exact ⟨k+1,by omega,by go_num,HT.out,trivial⟩
    case measure=>simp [intOf];omega
  .have N:k=A.length:=(by omega);rw [N] at F;have M:Hid (nmR A=decide (0<A.length)):=aGt A F;have HG:Hid (decide ((0:Int)<(A.length:Int))=decide (0<A.length)):=(by simp [Hid]);clear S F N;go_wp2;go_ret;exact ⟨by rw [M.out,<- HG.out];rfl,rfl⟩
attribute [-go_sem] Builtin.append_
theorem aD6 (v h) (w:World) (J:RdI w.heap.size w v h) (hz:∀ z∈h,0<=z/\z<128) (hn:h.length<=1048576) :
  Calls prog 91 #[v] w fun e w'=>∃ Y,e=.returned Y/\Bw w.heap.size w' Y h/\w.grownBy w' none:=by
 have HV:=aB J;obtain ⟨a,b1,O,_⟩:=id J;subst O;clear J
 go_enter func91,ntmps91
 go_wp2
 go_loopw [3,4] (fun o i W=>∃ (k:Nat),k<=h.length/\i=.int .i64 k/\Bw w.heap.size W o (h.take k)/\w.grownBy W none)
  (fun _ i _=>h.length - (intOf i).toNat)
 case atStart=>exact ⟨0,Nat.zero_le _,rfl,Bw.nil _ _,grownBy.refl _ _⟩
 case round=>
  obtain ⟨k,hk,rfl,E,H⟩:=hrel;have G:(h.take k).length=k:=(by simp;omega);obtain ⟨oa,oc,D,_,_⟩:=E.sl;rw [G] at D
  by_cases A:k<h.length
  .obtain ⟨a',a3,e,Z⟩:=HV.out.K H;simp only [Value.slice.injEq,true_and] at e;obtain ⟨rfl,rfl⟩:=e;obtain ⟨b,b3,rfl,b6,S⟩:=Z (fun e=>by rw [e] at A;simp at A);have a9:=S k A;have b5:0<=h[k]?.getD 0/\h[k]?.getD 0<128:=(by rw [getElem?_eq_getElem A];exact hz _ (getElem_mem A));have HT:=aB (dM h k A);have HO:=aB E;subst D;clear Z S E;generalize h[k]?.getD 0=p at *;obtain ⟨v2,w2,a1,o2,g2,a2,c2,F⟩:=aIX w.heap.size wr (.slice oa k oc) (h.take k) p HO.out H.size (by omega);rw [G] at F;have N:Hid (Bw w.heap.size w2 v2 (h.take (k+1))):=(by unfold Hid;rw [HT.out];exact o2);have I:=aB (bC H g2 (fun j e=>(HO.out.lt j e).1));subst F;clear o2 g2 HT;go_wp2
   go_roundw
   case rel=>exact ⟨k+1,by omega,by go_num,N.out,I.out⟩
   case measure=>simp [intOf];omega
  .have M:k=h.length:=(by omega);subst M;rw [take_length] at E;subst D;go_wp2;go_ret;exact ⟨_,rfl,E,H⟩
theorem yJ (v A) (w:World) (G:RdI w.heap.size w v A) (Y:A.length<=1048576) :
  Calls prog 50 #[v] w fun e w'=>∃ Z,e=.returned Z/\Bw w.heap.size w' Z (iT A)/\w.grownBy w' none:=by
 have I:=aB (aBw v A w G (by omega));have J:=aB (tN v A w G Y);have H:=aB (fun h:nmR A=true=>aD6 v A w G (fun z hz=>(aAS z (aBk A h z hz)).2) Y);obtain ⟨a,a3,O,_⟩:=id G;subst O;clear G
 go_enter func50,ntmps50
 go_wp2_with fail
 refine I.out.mono ?_;rintro e w1 ⟨rfl,rfl⟩;cases M:nmR A with
 | true=>
   have N:=aB (show iT A=A by unfold iT;rw [M];rfl);have E:=aB (H.out M);clear H J I
   go_wp2_with fail
   refine E.out.mono ?_;rintro e w2 ⟨v2,rfl,F,S⟩;obtain ⟨a2,c2,D,_,_⟩:=F.sl;subst D;clear E;go_wp2;go_ret;exact ⟨_,rfl,by rw [N.out];exact F,S⟩
 | false=>
   have N:=aB (show iT A=(quR A).1 by unfold iT;rw [M];rfl);clear H I
   go_wp2_with fail
   refine J.out.mono ?_;rintro e w2 ⟨v2,rfl,F,S⟩;obtain ⟨a2,c2,D,_,_⟩:=F.sl;subst D;clear J;go_wp2;go_ret;exact ⟨_,rfl,by rw [N.out];exact .inl F,S⟩
end Go.Proofs.YtckcaefnokeodaaGreatDoor
