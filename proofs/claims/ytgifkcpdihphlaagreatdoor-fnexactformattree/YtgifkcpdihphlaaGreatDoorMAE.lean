import Derived.Test.YtgifkcpdihphlaaGreatDoorMAD
set_option maxHeartbeats 16000000
set_option maxRecDepth 100000
namespace Go.Proofs.YtgifkcpdihphlaaGreatDoor
open Tryz
open Go.RowKit
theorem eA (p:Int) (w:World):Calls prog 110 #[.int .i64 p] w fun e w'=>e=.returned (.bool (aK p))/\w=w':=by
 by_cases j:48<=p
 ·by_cases u:p<=57
  ·have h:Hid (aK p=true):=by simp [Hid,aK,j,u]
   go_enter func110,ntmps110
   go_wp2;go_ret;exact ⟨by rw [h.out];rfl,rfl⟩
  ·have h:Hid (aK p=false):=by simp [Hid,aK];omega
   go_enter func110,ntmps110
   go_wp2;go_ret;exact ⟨by rw [h.out];rfl,rfl⟩
 ·have h:Hid (aK p=false):=by simp [Hid,aK];omega
  go_enter func110,ntmps110
  go_wp2;go_ret;exact ⟨by rw [h.out];rfl,rfl⟩
theorem aBV (p:Int) (w:World):Calls prog 152 #[.int .i64 p] w fun e w'=>e=.returned (.int .i64 (jK p))/\w=w':=by
 cases h:aK p
 ·by_cases u:97<=p
  ·by_cases E:p<=102
   ·have j:Hid (jK p=p - 97+10):=by simp [Hid,jK,h,u,E]
    go_enter func152,ntmps152
    go_wp2_with (go_at_call 110;refine (eA _ _).mono ?_;rintro e w' ⟨rfl,rfl⟩;rw [h])
    go_ret;exact ⟨by rw [j.out];first | rfl | (congr 2;go_num),rfl⟩
   ·have y:¬ p<=70:=(by omega);have j:Hid (jK p = -1):=(by simp [Hid,jK,h,u,E];omega);have A:65<=p:=by omega
    go_enter func152,ntmps152
    go_wp2_with (go_at_call 110;refine (eA _ _).mono ?_;rintro e w' ⟨rfl,rfl⟩;rw [h])
    go_ret;exact ⟨by rw [j.out];rfl,rfl⟩
  ·by_cases y:65<=p
   ·by_cases A:p<=70
    ·have j:Hid (jK p=p - 65+10):=by simp [Hid,jK,h,u,y,A]
     go_enter func152,ntmps152
     go_wp2_with (go_at_call 110;refine (eA _ _).mono ?_;rintro e w' ⟨rfl,rfl⟩;rw [h])
     go_ret;exact ⟨by rw [j.out];first | rfl | (congr 2;go_num),rfl⟩
    ·have j:Hid (jK p = -1):=by simp [Hid,jK,h,u,y,A]
     go_enter func152,ntmps152
     go_wp2_with (go_at_call 110;refine (eA _ _).mono ?_;rintro e w' ⟨rfl,rfl⟩;rw [h])
     go_ret;exact ⟨by rw [j.out];rfl,rfl⟩
   ·have j:Hid (jK p = -1):=by simp [Hid,jK,h,u,y]
    go_enter func152,ntmps152
    go_wp2_with (go_at_call 110;refine (eA _ _).mono ?_;rintro e w' ⟨rfl,rfl⟩;rw [h])
    go_ret;exact ⟨by rw [j.out];rfl,rfl⟩
 ·have j:Hid (jK p=p - 48):=(by simp [Hid,jK,h]);have D:48<=p/\p<=57:=(by simpa [aK] using h);obtain ⟨H,G⟩:=D
  go_enter func152,ntmps152
  go_wp2_with (go_at_call 110;refine (eA _ _).mono ?_;rintro e w' ⟨rfl,rfl⟩;rw [h])
  go_ret;exact ⟨by rw [j.out];first | rfl | (congr 2;go_num),rfl⟩
end Go.Proofs.YtgifkcpdihphlaaGreatDoor
namespace Go.Proofs.YtgifkcpdihphlaaGreatDoor
open Tryz
open Go.RowKit
attribute [-go_sem] run_index_string
theorem qV {zs:List Int} (u:Bys zs) {k:Nat} (h:k<zs.length) (W:World) :
  (Instr.index 9 (.string (strOfNums zs)) (.int .i64 (k:Int))).run prog W=.ok (.int .u8 (zs[k]?.getD 0)) W:=by
 rw [run_index_string W 9 (strOfNums zs) .i64 (k:Int) underlying9];have j:(strOfNums zs).size=zs.length:=strOfNums_size zs;rw [dif_pos ⟨by omega,by rw [j];omega⟩];have y:=u _ (List.getElem_mem h);congr 2;simp only [Int.toNat_natCast]
 have:((strOfNums zs)[k]'(by rw [j];exact h))=UInt8.ofNat (zs[k]).toNat:=by
  simp [strOfNums,ByteArray.getElem_eq_getElem_data]
 rw [this];simp [h];omega
theorem bU (zs:List Int) (w:World) (H:Bys zs) (U:zs.length<=1048576) :
  Calls prog 135 #[.string (strOfNums zs)] w fun e w'=>e=.returned (.bool (aW zs))/\w=w':=by
 have J:∀ (x:Bool) (w:World),(Op.unary .not (.bool x)).run prog w=.ok (.bool (!x)) w:=fun _ _=>rfl;have M:(strOfNums zs).size=zs.length:=strOfNums_size zs
 go_enter func135,ntmps135
 go_wp2
 go_loopw [3] (fun i wr=>∃ k:Nat,k<=zs.length/\i=.int .i64 k/\(zs.take k).all aK=true/\w=wr)
  (fun i _=>zs.length - (intOf i).toNat)
 case atStart=>exact ⟨0,Nat.zero_le _,rfl,rfl,rfl⟩
 case round=>
  obtain ⟨k,S,rfl,h,rfl⟩:=hrel
  by_cases j:k<zs.length
  ·have A:=aB (lF zs aK k j h);have u:=aB (yW zs aK k j);have G:=qV H j w;have y:=H.get k;generalize zs[k]?.getD 0=p at G A u y;obtain ⟨L,N⟩:=y;cases D:aK p
   ·have E:Hid (aW zs=false):=u.out D
    go_wp2_with (go_at_call 110;refine (eA _ _).mono ?_;rintro e w' ⟨rfl,rfl⟩;rw [D])
    go_ret;exact ⟨by rw [E.out];rfl,rfl⟩
   ·have O:Hid ((zs.take (k+1)).all aK=true):=A.out D
    go_wp2_with (go_at_call 110;refine (eA _ _).mono ?_;rintro e w' ⟨rfl,rfl⟩;rw [D])
    go_roundw
    case rel=>exact ⟨k+1,by omega,by go_num,O.out,trivial⟩
    case measure=>simp [intOf];omega
  ·have E:Hid (aW zs=true):=by
    rw [List.take_of_length_le (by omega)] at h;exact h
   clear h;go_wp2;go_ret;exact ⟨by rw [E.out];rfl,rfl⟩
theorem aE3 (zs:List Int) (w:World) (G:Bys zs) (U:zs.length<=1048576) :
  Calls prog 133 #[.string (strOfNums zs)] w fun e w'=>e=.returned (.bool (zs.all eK&&decide (0<zs.length)))/\w=w':=by
 have H:∀ (x:Bool) (w:World),(Op.unary .not (.bool x)).run prog w=.ok (.bool (!x)) w:=fun _ _=>rfl;have L:(strOfNums zs).size=zs.length:=strOfNums_size zs
 go_enter func133,ntmps133
 go_wp2
 go_loopw [3] (fun i wr=>∃ k:Nat,k<=zs.length/\i=.int .i64 k/\(zs.take k).all eK=true/\w=wr)
  (fun i _=>zs.length - (intOf i).toNat)
 case atStart=>exact ⟨0,Nat.zero_le _,rfl,rfl,rfl⟩
 case round=>
  obtain ⟨k,S,rfl,h,rfl⟩:=hrel
  by_cases y:k<zs.length
  ·have u:=aB (lF zs eK k y h);have j:=aB (yW zs eK k y);have E:=qV G y w;have A:=G.get k;generalize zs[k]?.getD 0=p at E u j A;obtain ⟨J,N⟩:=A
   by_cases M:0<=jK p
   ·have O:Hid ((zs.take (k+1)).all eK=true):=u.out (by simp [eK,M]);clear u j
    go_wp2_with (go_at_call 152;refine (aBV _ _).mono ?_;rintro e w' ⟨rfl,rfl⟩)
    go_roundw
    case rel=>exact ⟨k+1,by omega,by go_num,O.out,trivial⟩
    case measure=>simp [intOf];omega
   ·have D:Hid ((zs.all eK&&decide (0<zs.length))=false):=(by rw [Hid,j.out (by simp [eK];omega)];rfl);clear u j
    go_wp2_with (go_at_call 152;refine (aBV _ _).mono ?_;rintro e w' ⟨rfl,rfl⟩)
    go_ret;exact ⟨by rw [D.out];rfl,rfl⟩
  ·have D:Hid ((zs.all eK&&decide (0<zs.length))=decide (0<zs.length)):=by
    rw [List.take_of_length_le (by omega)] at h;rw [Hid,h];rfl
   clear h;go_wp2;go_ret;exact ⟨by rw [D.out];rfl,rfl⟩
theorem kS (zs:List Int) (h j:Nat):(strOfNums zs).extract h j=strOfNums ((zs.drop h).take (j - h)):=by
 apply ByteArray.ext;simp only [strOfNums,ByteArray.data_extract];apply Array.ext';simp [List.map_take,List.map_drop]
def iG (zs:List Int):Int:=if zs.any (· == 46) then ((zs.takeWhile (· != 46)).length:Int) else -1
theorem yR {zs a b:List Int} (h:zs=a++46::b) (j:∀ y∈a,(y != 46)=true):iG zs=a.length:=by
 subst h;unfold iG;rw [if_pos (by simp),(qF (b:=b) j (by decide)).1]
theorem aE6 {zs:List Int} (u:∀ y∈zs,(y != 46)=true):iG zs = -1:=by
 unfold iG;rw [if_neg];intro j;rw [List.any_eq_true] at j;obtain ⟨y,A,h⟩:=j;have:=u y A;simp at this h;exact this h
theorem aFY (zs:List Int):(∀ y∈zs,(y != 46)=true)\/∃ a b,zs=a++46::b/\∀ y∈a,(y != 46)=true:=by
 rcases oY (fun c=>c != 46) zs with h | ⟨a,x,b,h,A,u⟩
 ·exact .inl h
 ·have j:x=46:=(by simpa using u);subst j;exact .inr ⟨a,b,h,A⟩
theorem aJQ (zs:List Int) (c:Int):iG (zs++[c])=if 0<=iG zs then iG zs else if c=46 then (zs.length:Int) else -1:=by
 rcases aFY zs with h | ⟨a,b,rfl,A⟩
 ·rw [aE6 h,if_neg (by omega)]
  by_cases u:c=46
  ·subst u;rw [if_pos rfl,yR rfl h]
  ·rw [if_neg u];refine aE6 (fun y j=>?_);rcases List.mem_append.1 j with j | j
   ·exact h y j
   ·simp at j;subst j;simpa using u
 ·rw [yR rfl A,if_pos (by omega),yR (a:=a) (b:=b++[c]) (by simp) A]
theorem aMr (zs:List Int) : -1<=iG zs/\iG zs<=zs.length:=by
 rcases aFY zs with h | ⟨a,b,rfl,j⟩
 ·rw [aE6 h];omega
 ·rw [yR rfl j];simp;omega
theorem aEs {zs:List Int} (h:iG zs<0):zs.takeWhile (· != 46)=zs/\(zs.dropWhile (· != 46)).tail=[]/\iG zs = -1:=by
 unfold iG at h ⊢
 split at h
 ·omega
 ·rename_i hn
  have j:∀ y∈zs,(y != 46)=true:=by
   intro y u;simp only [List.any_eq_true,not_exists,not_and] at hn;have:=hn y u;simpa using this
  have:=aGo j;exact ⟨this.1,by rw [this.2];rfl,if_neg hn⟩
theorem aI9 {zs:List Int} (h:¬ iG zs<0):∃ p:Nat,iG zs=p/\p<zs.length/\zs.takeWhile (· != 46)=zs.take p/\(zs.dropWhile (· != 46)).tail=zs.drop (p+1):=by
 rcases oY (fun c=>c != 46) zs with J | ⟨a,x,b,rfl,H,E⟩
 ·exfalso;apply h;unfold iG;rw [if_neg]
  ·omega
  ·intro D;rw [List.any_eq_true] at D;obtain ⟨y,G,A⟩:=D;have:=J y G;simp at this A;exact this A
 ·have j:=qF (b:=b) H E;have u:x=46:=(by simpa using E);refine ⟨a.length,?_,by simp,by rw [j.1,List.take_left],by rw [j.2,List.tail_cons,<- List.drop_drop,List.drop_left];rfl⟩;unfold iG;rw [if_pos (by simp [u]),j.1]
theorem dR (h:List Int):(strOfNums h).toList.isEmpty=decide (h=[]):=by
 rw [fG];cases h<;>simp
theorem aEQ {j:List Int} (u:Bys j):((strOfNums j).toList==[48])=decide (j=[48]):=by
 have h:=aCj u (ys:=[48]) (fun z y=>by simp at y;omega);rw [show (strOfNums [48]).toList=[48] from by rw [fG];rfl] at h;exact h
theorem aGL {j:List Int} (u:Bys j):((strOfNums j).toList=[48])=(j=[48]):=by
 have:=aEQ u
 by_cases h:j=[48]
 ·rw [decide_eq_true h] at this;simpa [h] using this
 ·rw [decide_eq_false h] at this;simpa [h] using this
theorem fS {zs:List Int} (h:Bys zs) (j:zs≠[]) (W:World) :
  (Instr.index 9 (.string (strOfNums zs)) (.int .i64 0)).run prog W=.ok (.int .u8 (zs[0]?.getD 0)) W:=by
 simpa using qV h (k:=0) (List.length_pos_iff.2 j) W
def wpS (pt:Bool) (ws ps:List Int):Bool:=if !aW ws || !aW ps then false else if ws=[] then pt&&decide (ps≠[]) else (decide (ws=[48])||decide (ws[0]?.getD 0≠48))
theorem aHA {zs:List Int} (h:iG zs<0):cN zs=wpS false zs []:=by
 obtain ⟨u,y,_⟩:=aEs h;unfold cN wpS;simp only [u,y]
 by_cases j:zs=[]
 ·simp [j]
 ·simp [j]
theorem aHl {zs:List Int} {p:Nat} (u:p<zs.length) (h:zs.takeWhile (· != 46)=zs.take p) (j:(zs.dropWhile (· != 46)).tail=zs.drop (p+1)):cN zs=wpS true (zs.take p) (zs.drop (p+1)):=by
 unfold cN wpS;simp only [h,j];rw [show decide ((zs.take p).length<zs.length)=true by simp;omega]
theorem wL (zs:List Int) (w:World) (X:Bys zs) (hl:zs.length<=1048576) :
  Calls prog 134 #[.string (strOfNums zs)] w fun e w'=>e=.returned (.bool (cN zs))/\w=w':=by
 have c1:∀ (x:Bool) (w:World),(Op.unary .not (.bool x)).run prog w=.ok (.bool (!x)) w:=fun _ _=>rfl;have c2:(strOfNums zs).size=zs.length:=strOfNums_size zs
 go_enter func134,ntmps134
 go_wp2
 go_loopw [3,4] (fun p i wr=>∃ k:Nat,k<=zs.length/\i=.int .i64 k/\p=.int .i64 (iG (zs.take k))/\w=wr)
  (fun _ i _=>zs.length - (intOf i).toNat)
 case atStart=>exact ⟨0,Nat.zero_le _,rfl,rfl,rfl⟩
 case round=>
  obtain ⟨k,hk,rfl,rfl,rfl⟩:=hrel
  by_cases a5:k<zs.length
  ·have N:=aJQ (zs.take k) (zs[k]?.getD 0);rw [<- dF zs k a5,List.length_take_of_le hk] at N;have J:=qV X a5 w;have a8:=X.get k;generalize zs[k]?.getD 0=c at J N a8;obtain ⟨O,c4⟩:=a8;have HS:=aB N;clear N;have b3:=aMr (zs.take k);generalize iG (zs.take k)=d at HS b3
   by_cases E:c=46
   ·have Y:(c==46)=true:=by simp [E]
    by_cases S:d<0
    ·have HT:Hid (iG (zs.take (k+1))=(k:Int)):=(by rw [Hid,HS.out,if_neg (by omega),if_pos E]);clear E;go_wp2
     go_roundw
     case rel=>exact ⟨k+1,by omega,by go_num,by rw [HT.out],trivial⟩
     case measure=>simp [intOf];omega
    ·have HT:Hid (iG (zs.take (k+1))=d):=(by rw [Hid,HS.out,if_pos (by omega)]);clear E;go_wp2
     go_roundw
     case rel=>exact ⟨k+1,by omega,by go_num,by rw [HT.out],trivial⟩
     case measure=>simp [intOf];omega
   ·have Y:(c==46)=false:=by simp [E]
    have HT:Hid (Value.int .i64 d=.int .i64 (iG (zs.take (k+1)))):=by
     rw [Hid,HS.out]
     by_cases S:0<=d
     ·rw [if_pos S]
     ·rw [if_neg S,if_neg E,show d = -1 by omega]
    go_wp2
    go_roundw
    case rel=>exact ⟨k+1,by omega,by go_num,HT.out,trivial⟩
    case measure=>simp [intOf];omega
  ·have a7:zs.take k=zs:=List.take_of_length_le (by omega);rw [a7];clear a7;have b4:=aB (fun h=>aHA (zs:=zs) h)
   by_cases S:iG zs<0
   ·have Z:Hid (cN zs=wpS false zs []):=b4.out S;have a6:=(aEs S).2.2;have A:=aB (bU zs w X hl);have G:=aB (bU [] w (fun z u=>by simp at u) (by simp));rw [a6];clear S a6;cases D:aW zs
    ·have y:Hid (cN zs=false):=(by rw [Hid,Z.out];unfold wpS;simp [D]);rw [D] at A
     go_wp2_with fail
     refine (A.out).mono ?_;rintro e w' ⟨rfl,rfl⟩;go_wp2;go_ret;exact ⟨by rw [y.out];rfl,rfl⟩
    ·cases U:aW []
     ·have y:Hid (cN zs=false):=(by rw [Hid,Z.out];unfold wpS;simp [D,U]);rw [D] at A;rw [U] at G
      go_wp2_with fail
      refine (A.out).mono ?_;rintro e w' ⟨rfl,rfl⟩
      go_wp2_with fail
      refine (G.out).mono ?_;rintro e w' ⟨rfl,rfl⟩;go_wp2;go_ret;exact ⟨by rw [y.out];rfl,rfl⟩
     ·have L:Hid (cN zs=if zs=[] then false&&decide (([]:List Int)≠[]) else (decide (zs=[48])||decide ((zs)[0]?.getD 0≠48))):=(by rw [Hid,Z.out];unfold wpS;simp [D,U]);rw [D] at A;rw [U] at G
      by_cases u:zs=[]
      ·have e0:(strOfNums (zs)).toList.isEmpty=true:=(by rw [dR,decide_eq_true u]);have y:Hid (cN zs=false):=(by rw [Hid,L.out,if_pos u];rfl);clear u
       go_wp2_with fail
       refine (A.out).mono ?_;rintro e w' ⟨rfl,rfl⟩
       go_wp2_with fail
       refine (G.out).mono ?_;rintro e w' ⟨rfl,rfl⟩;go_wp2;go_ret;exact ⟨by rw [y.out];rfl,rfl⟩
      ·have e0:(strOfNums (zs)).toList.isEmpty=false:=(by rw [dR,decide_eq_false u]);have J:=fS X u w;have O:=(Bys.get X 0).1;have Y:=aEQ X;have M:=aGL X
       by_cases j:zs=[48]
       ·rw [decide_eq_true j] at Y;have e3:(strOfNums (zs)).toList=[48]:=(by rw [M];exact j);have y:Hid (cN zs=true):=(by rw [Hid,L.out,if_neg u,decide_eq_true j];rfl);clear u j M
        go_wp2_with fail
        refine (A.out).mono ?_;rintro e w' ⟨rfl,rfl⟩
        go_wp2_with fail
        refine (G.out).mono ?_;rintro e w' ⟨rfl,rfl⟩;go_wp2;go_ret;exact ⟨by rw [y.out];rfl,rfl⟩
       ·rw [decide_eq_false j] at Y;have e3:¬ (strOfNums (zs)).toList=[48]:=(by rw [M];exact j);have y:Hid (cN zs=decide ((zs)[0]?.getD 0≠48)):=(by rw [Hid,L.out,if_neg u,decide_eq_false j];rfl);clear u j M L;generalize (zs)[0]?.getD 0=c0 at J y O;have HC:Hid ((c0 != 48)=decide (c0≠48)):=by rw [Hid,Bool.eq_iff_iff];simp
        go_wp2_with fail
        refine (A.out).mono ?_;rintro e w' ⟨rfl,rfl⟩
        go_wp2_with fail
        refine (G.out).mono ?_;rintro e w' ⟨rfl,rfl⟩;go_wp2;go_ret;exact ⟨by rw [y.out,<- HC.out];rfl,rfl⟩
   ·obtain ⟨p,hp,b2,t1,t2⟩:=aI9 S;have Z:Hid (cN zs=wpS true (zs.take p) (zs.drop (p+1))):=aHl b2 t1 t2;rw [hp];clear S t1 t2 hp;have H:Bys (zs.take p):=fun z u=>X z (List.mem_of_mem_take u);have b1:Bys (zs.drop (p+1)):=fun z u=>X z (List.mem_of_mem_drop u);have x1:(strOfNums zs).extract 0 p=strOfNums (zs.take p):=by rw [kS];simp
    have x2:(strOfNums zs).extract (p+1) zs.length=strOfNums (zs.drop (p+1)):=by
     rw [kS,List.take_of_length_le (by rw [List.length_drop];omega)]
    have A:=aB (bU (zs.take p) w H (by rw [List.length_take];omega));have G:=aB (bU (zs.drop (p+1)) w b1 (by rw [List.length_drop];omega));cases D:aW (zs.take p)
    ·have y:Hid (cN zs=false):=(by rw [Hid,Z.out];unfold wpS;simp [D]);rw [D] at A
     go_wp2_with fail
     refine (A.out).mono ?_;rintro e w' ⟨rfl,rfl⟩;go_wp2;go_ret;exact ⟨by rw [y.out];rfl,rfl⟩
    ·cases U:aW (zs.drop (p+1))
     ·have y:Hid (cN zs=false):=(by rw [Hid,Z.out];unfold wpS;simp [D,U]);rw [D] at A;rw [U] at G
      go_wp2_with fail
      refine (A.out).mono ?_;rintro e w' ⟨rfl,rfl⟩
      go_wp2_with fail
      refine (G.out).mono ?_;rintro e w' ⟨rfl,rfl⟩;go_wp2;go_ret;exact ⟨by rw [y.out];rfl,rfl⟩
     ·have L:Hid (cN zs=if (zs.take p)=[] then true&&decide (zs.drop (p+1)≠[]) else (decide (zs.take p=[48])||decide ((zs.take p)[0]?.getD 0≠48))):=(by rw [Hid,Z.out];unfold wpS;simp [D,U]);rw [D] at A;rw [U] at G
      by_cases u:(zs.take p)=[]
      ·have e0:(strOfNums (zs.take p)).toList.isEmpty=true:=(by rw [dR,decide_eq_true u]);have y:Hid (cN zs = !(strOfNums (zs.drop (p+1))).toList.isEmpty):=(by rw [Hid,L.out,if_pos u,dR];simp only [ne_eq,decide_not,Bool.true_and]);clear u
       go_wp2_with fail
       refine (A.out).mono ?_;rintro e w' ⟨rfl,rfl⟩
       go_wp2_with fail
       refine (G.out).mono ?_;rintro e w' ⟨rfl,rfl⟩;go_wp2;go_ret;exact ⟨by rw [y.out];rfl,rfl⟩
      ·have e0:(strOfNums (zs.take p)).toList.isEmpty=false:=(by rw [dR,decide_eq_false u]);have J:=fS H u w;have O:=(Bys.get H 0).1;have Y:=aEQ H;have M:=aGL H
       by_cases j:zs.take p=[48]
       ·rw [decide_eq_true j] at Y;have e3:(strOfNums (zs.take p)).toList=[48]:=(by rw [M];exact j);have y:Hid (cN zs=true):=(by rw [Hid,L.out,if_neg u,decide_eq_true j];rfl);clear u j M
        go_wp2_with fail
        refine (A.out).mono ?_;rintro e w' ⟨rfl,rfl⟩
        go_wp2_with fail
        refine (G.out).mono ?_;rintro e w' ⟨rfl,rfl⟩;go_wp2;go_ret;exact ⟨by rw [y.out];rfl,rfl⟩
       ·rw [decide_eq_false j] at Y;have e3:¬ (strOfNums (zs.take p)).toList=[48]:=(by rw [M];exact j);have y:Hid (cN zs=decide ((zs.take p)[0]?.getD 0≠48)):=(by rw [Hid,L.out,if_neg u,decide_eq_false j];rfl);clear u j M L;generalize (zs.take p)[0]?.getD 0=c0 at J y O;have HC:Hid ((c0 != 48)=decide (c0≠48)):=by rw [Hid,Bool.eq_iff_iff];simp
        go_wp2_with fail
        refine (A.out).mono ?_;rintro e w' ⟨rfl,rfl⟩
        go_wp2_with fail
        refine (G.out).mono ?_;rintro e w' ⟨rfl,rfl⟩;go_wp2;go_ret;exact ⟨by rw [y.out,<- HC.out];rfl,rfl⟩
end Go.Proofs.YtgifkcpdihphlaaGreatDoor
namespace Go.Proofs.YtgifkcpdihphlaaGreatDoor
open Tryz
open Go.RowKit
structure aK7 (cf:Nat) (P:Int->Bool):Prop where
 call:∀ (p:Int) (W:World),Calls prog cf #[.int .i32 p] W fun e w'=>e=.returned (.bool (P p))/\W=w'
 enter:∀ (args:Array Value) (W:World),(callFunc cf args).run prog W=.ok (.enter cf args) W
theorem Tab.row {w w':World} {sb:Nat} (h:Tab w) (u:0<sb) (j:w.grownBy w' (some sb)):Tab w':=
 have e:some 0≠some sb:=by simp;omega
 ⟨j.cell h.c0 e,j.cell h.c1 e,j.cell h.c2 e,j.cell h.c3 e,j.cell h.c4 e⟩
def atOf (sb:Nat) (w:World):Nat:=match w.cell? ⟨sb,1,none⟩ with
 | some v=>(intOf v).toNat
 | none=>0
theorem Sc.atOf {sb:Nat} {w:World} {tv:Value} {n:Nat} (h:Sc sb w tv n):atOf sb w=n:=by
 unfold Go.Proofs.YtgifkcpdihphlaaGreatDoor.atOf;rw [h.c1];simp [intOf]
theorem aJa (cf:Nat) (P:Int->Bool) (hP:aK7 cf P) (sb n:Nat) (tv:Value) (zs:List Int) (w:World) (b5:0<sb) (E:Tab w) (h:Sc sb w tv n) (D:Tx sb w tv zs) (hn:n<=zs.length) :
  Calls prog 166 #[.pointer (some ⟨sb,0,none⟩),.func (.func cf) #[] #[]] w fun e w'=>e=.returned (.bool (decide (n<skN P zs (zs.length+1) n)))/\Sc sb w' tv (skN P zs (zs.length+1) n)/\skN P zs (zs.length+1) n<=zs.length/\w.grownBy w' (some sb):=by
 have c4:=D.len;have h1:=h.c1;have HC:=aB hP.call;have d0:=hP.enter;have b0:=aB (aDN sb n tv zs w E h D hn);have HS:=aB h;have b7:=aB D;have HT:=aB E;clear h D hP E
 go_enter func166,ntmps166
 go_wp2_with (go_at_call 185;refine b0.out.mono ?_;rintro e w1 ⟨rfl,g1⟩)
 go_loopw [6] (fun p wr=>∃ (k f:Nat),n<=k/\k<=zs.length/\p=.int .i32 (nxP zs k)/\Sc sb wr tv k/\Tx sb wr tv zs/\Tab wr/\w.grownBy wr (some sb)/\zs.length - k<f/\skN P zs f k=skN P zs (zs.length+1) n)
  (fun _ wr=>zs.length - atOf sb wr)
 case atStart=>exact ⟨n,zs.length+1,Nat.le_refl _,hn,rfl,HS.out.K g1,b7.out.K g1,HT.out.K g1,gH g1,by omega,rfl⟩
 case round=>
  obtain ⟨k,f,c9,hk,rfl,L,D,E,U,hf,y⟩:=hrel;have c1:=L.c1;have a9:=aB L.atOf;obtain ⟨f',rfl⟩:∃ f',f=f'+1:=⟨f - 1,by omega⟩
  by_cases j:nxP zs k≠-1/\P (nxP zs k)=true
  ·have a6:=aLi j.1;have J:=aMC zs k hk;have u:=aB ((aJw (f:=f') j.1 j.2).symm.trans y);have e1:(nxP zs k != -1)=true:=(by simpa using j.1);have HN:=aB (aEj sb k tv zs wr E L D hk);have a5:=aB (fun W h=>aDN sb (k+nxS zs k) tv zs W h);have HQ:=aB j.2;have G:=HC.out (nxP zs k) wr;rw [j.2] at G;have b2:=aB E;have Y:=aB D;have HG:=aB U;clear L D E U y j h1;generalize nxP zs k=p at e1 G HN;generalize nxS zs k=m at HN u a5 a6 J
   go_wp2_with fail
   refine G.mono ?_;rintro e w2 ⟨rfl,rfl⟩;clear G
   go_wp2_with fail
   refine HN.out.mono ?_;rintro e w2 ⟨rfl,M,g2⟩;have X:=Y.out.beside (Nat.le_refl _) g2;have Z:=b2.out.row b5 g2
   go_wp2_with fail
   refine (a5.out _ Z M X J).mono ?_;rintro e w3 ⟨rfl,S⟩;go_wp2
   go_roundw
   case rel=>exact ⟨k+m,f',by omega,J,rfl,M.K S,X.K S,Z.K S,aA (aA HG.out g2) (gH S),by omega,u.out⟩
   case measure=>rw [(M.K S).atOf,a9.out];omega
  ·have u:Hid (skN P zs (zs.length+1) n=k):=by
    rw [Hid,<- y,skN,if_neg j]
   have b3:=aB L;have HG:=aB U
   have A:∀ w',wr.grownBy w' none->Sc sb w' tv (skN P zs (zs.length+1) n)/\skN P zs (zs.length+1) n<=zs.length/\w.grownBy w' (some sb):=fun w' g=>by
    rw [u.out];exact ⟨b3.out.K g,hk,aA HG.out (gH g)⟩
   have H:=aB A;have HD:Hid (decide (n<skN P zs (zs.length+1) n)=decide (n<k)):=by rw [Hid,u.out]
   by_cases O:nxP zs k = -1
   ·have e1:(nxP zs k != -1)=false:=(by rw [O];rfl);clear L D E U y j h1 A O;generalize nxP zs k=p at e1;go_wp2;go_ret;exact ⟨by rw [HD.out];rfl,H.out _ (World.grownBy.refl _ _)⟩
   ·have e1:(nxP zs k != -1)=true:=(by simpa using O);have G:=HC.out (nxP zs k) wr
    have N:P (nxP zs k)=false:=by
     cases hh:P (nxP zs k)
     ·rfl
     ·exact absurd ⟨O,hh⟩ j
    rw [N] at G;clear L D E U y j h1 A O N;generalize nxP zs k=p at e1 G
    go_wp2_with fail
    refine G.mono ?_;rintro e w2 ⟨rfl,rfl⟩;clear G;go_wp2;go_ret;exact ⟨by rw [HD.out];rfl,H.out _ (World.grownBy.refl _ _)⟩
theorem fP (p:Int) (w:World):Calls prog 180 #[.int .i32 p] w fun e w'=>e=.returned (.bool (aK p))/\w=w':=by
 by_cases j:48<=p
 ·by_cases u:p<=57
  ·have h:Hid (aK p=true):=by simp [Hid,aK,j,u]
   go_enter func180,ntmps180
   go_wp2;go_ret;exact ⟨by rw [h.out];rfl,rfl⟩
  ·have h:Hid (aK p=false):=by simp [Hid,aK];omega
   go_enter func180,ntmps180
   go_wp2;go_ret;exact ⟨by rw [h.out];rfl,rfl⟩
 ·have h:Hid (aK p=false):=by simp [Hid,aK];omega
  go_enter func180,ntmps180
  go_wp2;go_ret;exact ⟨by rw [h.out];rfl,rfl⟩
def St (sb:Nat) (w0 w:World) (s:List Int):Prop:=∃ tv zs n,n<=zs.length/\zs.drop n=s/\Sc sb w tv n/\Tx sb w tv zs/\Tab w/\0<sb/\w0.grownBy w (some sb)
section
variable {sb:Nat} {w0 w:World}
theorem eW (j r:List Int) (A:Bys j) (y:j.length<=100) (h:St sb w0 w (j++r)) :
  Calls prog 165 #[.pointer (some ⟨sb,0,none⟩),.string (strOfNums j)] w fun e w'=>e=.returned (.bool true)/\St sb w0 w' r:=by
 obtain ⟨tv,zs,n,H,D,N,G,L,E,M⟩:=h;refine (zL j A y sb n tv zs w N G H).mono ?_;rintro e w' ⟨rfl,k,g⟩;have u:j <+: zs.drop n:=(by rw [D];exact List.prefix_append _ _);rw [if_pos u] at k;have J:j.length<=zs.length - n:=(by have:=u.length_le;rwa [List.length_drop] at this);refine ⟨by rw [decide_eq_true u],tv,zs,n+j.length,by omega,?_,k,G.beside (Nat.le_refl _) g,L.row E g,E,aA M g⟩;rw [<- List.drop_drop,D,List.drop_left]
theorem gJ (j s:List Int) (A:Bys j) (u:j.length<=100) (E:¬ j <+: s) (h:St sb w0 w s) :
  Calls prog 165 #[.pointer (some ⟨sb,0,none⟩),.string (strOfNums j)] w fun e w'=>e=.returned (.bool false)/\St sb w0 w' s:=by
 obtain ⟨tv,zs,n,D,y,M,H,J,G,L⟩:=h;refine (zL j A u sb n tv zs w M H D).mono ?_;rintro e w' ⟨rfl,k,g⟩;rw [y,if_neg E] at k;exact ⟨by rw [y,decide_eq_false E],tv,zs,n,D,y,k,H.beside (Nat.le_refl _) g,J.row G g,G,aA L g⟩
def dV (P:Int->Bool):List Int->Bool
 | []=>false
 | c::_=>P c
theorem uC (s:List Int):dV aK s=gQ s:=by cases s<;>rfl
theorem aAy (s:List Int):dV eK s=yY s:=by cases s<;>rfl
theorem aGC (j:Nat) (P:Int->Bool) (O:aK7 j P) (L:Asc P) (s:List Int) (h:St sb w0 w s) :
  Calls prog 166 #[.pointer (some ⟨sb,0,none⟩),.func (.func j) #[] #[]] w fun e w'=>e=.returned (.bool (dV P s))/\St sb w0 w' (s.dropWhile P):=by
 obtain ⟨tv,zs,n,G,A,N,E,H,D,M⟩:=h;refine (aJa j P O sb n tv zs w D H N E G).mono ?_;rintro e w' ⟨rfl,k,u,g⟩;have J:=aH6 L E.by_ (zs.length+1) n G (by omega);refine ⟨?_,tv,zs,_,u,by rw [J.1,A],k,E.beside (Nat.le_refl _) g,H.row D g,D,aA M g⟩;congr 2;rw [Bool.eq_iff_iff,decide_eq_true_eq,J.2.2.2]
 by_cases y:n<zs.length
 ·rw [<- A,List.drop_eq_getElem_cons y];simp [y,dV]
 ·rw [<- A,List.drop_of_length_le (by omega)];simp [y,dV]
theorem aIS (s:List Int) (h:St sb w0 w s) :
  Calls prog 155 #[.pointer (some ⟨sb,0,none⟩)] w fun e w'=>e=.returned (.bool (decide (s=[])))/\St sb w0 w' s:=by
 obtain ⟨tv,zs,n,A,u,j,y,D,G,E⟩:=h;refine (aBH sb n tv zs w j y).mono ?_;rintro e w' ⟨rfl,g⟩;refine ⟨?_,tv,zs,n,A,u,j.K g,y.K g,D.K g,G,aA E (gH g)⟩;congr 2;rw [Bool.eq_iff_iff,decide_eq_true_eq,beq_iff_eq,<- u,List.drop_eq_nil_iff];omega
end
theorem aEZ:aK7 180 aK:=⟨fun p W=>fP p W,fun args W=>by kernel_rfl⟩
theorem aKN:Asc aK:=fun p h=>by simp [aK] at h;omega
def aBN (wb:Bool) (s:List Int):Bool × List Int:=match s with
 | []=>(wb,[])
 | c::r=>if c=46 then (wb||gQ r,r.dropWhile aK) else (wb,c::r)
theorem nV {c:Int} {s:List Int} (h:∀ r,s≠c::r):¬ [c] <+: s:=by
 rintro ⟨t,j⟩;exact h t j.symm
theorem aLJ (s:List Int):(∃ r,s=[48]++r/\dK s=aBN true r)\/(∃ j,¬ [48] <+: s/\s.dropWhile aK=j/\dK s=aBN (dV aK s) j):=by
 cases s with
 | nil=>exact .inr ⟨[],by simp,rfl,rfl⟩
 | cons c r=>
   by_cases h:c=48
   ·subst h;left;exact ⟨r,rfl,by simp only [dK];rfl⟩
   ·right;refine ⟨_,nV (fun t e=>h (by simp at e;exact e.1)),rfl,?_⟩;simp only [dK,if_neg h];rfl
theorem aId (h:Bool) (s:List Int):(∃ r u,s=[46]++r/\r.dropWhile aK=u/\aBN h s=(h||dV aK r,u))\/(¬ [46] <+: s/\aBN h s=(h,s)):=by
 cases s with
 | nil=>exact .inr ⟨by simp,rfl⟩
 | cons c r=>
   by_cases j:c=46
   ·subst j;exact .inl ⟨r,_,rfl,rfl,by simp only [aBN,if_pos,uC]⟩
   ·exact .inr ⟨nV (fun t e=>j (by simp at e;exact e.1)),by simp only [aBN,if_neg j]⟩
theorem tF (r:List Int):(∃ t,r=[43]++t/\eB r=t)\/(∃ t,r=[45]++t/\¬ [43] <+: r/\eB r=t)\/(¬ [43] <+: r/\¬ [45] <+: r/\eB r=r):=by
 cases r with
 | nil=>exact .inr (.inr ⟨by simp,by simp,rfl⟩)
 | cons c r=>
   by_cases j:c=43
   ·subst j;exact .inl ⟨r,rfl,by simp [eB,aAr]⟩
   ·by_cases h:c=45
    ·subst h;exact .inr (.inl ⟨r,rfl,nV (fun t e=>by simp at e),by simp [eB,aAr]⟩)
    ·exact .inr (.inr ⟨nV (fun t e=>j (by simp at e;exact e.1)),nV (fun t e=>h (by simp at e;exact e.1)),by simp [eB,aAr,j,h]⟩)
theorem aI4 (s:List Int):(∃ r,s=[101]++r/\iN (true,s)=(dV aK (eB r),(eB r).dropWhile aK))\/(∃ r,s=[69]++r/\¬ [101] <+: s/\iN (true,s)=(dV aK (eB r),(eB r).dropWhile aK))\/(¬ [101] <+: s/\¬ [69] <+: s/\iN (true,s)=(true,s)):=by
 cases s with
 | nil=>exact .inr (.inr ⟨by simp,by simp,rfl⟩)
 | cons c r=>
   by_cases j:c=101
   ·subst j;exact .inl ⟨r,rfl,by simp [iN,isE,uC]⟩
   ·by_cases h:c=69
    ·subst h;exact .inr (.inl ⟨r,rfl,nV (fun t e=>by simp at e),by simp [iN,isE,uC]⟩)
    ·exact .inr (.inr ⟨nV (fun t e=>j (by simp at e;exact e.1)),nV (fun t e=>h (by simp at e;exact e.1)),by simp [iN,isE,j,h]⟩)
end Go.Proofs.YtgifkcpdihphlaaGreatDoor
