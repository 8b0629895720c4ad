import Derived.Laws.BytesArg
import Derived.Laws.IdiomStrings
import Derived.Test.YtmfehflibkokbaaGreatDoorMAW
set_option maxHeartbeats 16000000
set_option maxRecDepth 100000
namespace Go.Proofs.YtmfehflibkokbaaGreatDoor
open Go.Proofs.Tryz
open Go.RowKit
structure Sc (sb:Nat) (w:World) (tv:Value) (n:Nat):Prop where
 c0:w.cell? ⟨sb,0,none⟩=some tv
 c1:w.cell? ⟨sb,1,none⟩=some (.int .i64 n)
 fz:∀ j,w.frozen? ⟨sb,j,none⟩=false
theorem Sc.lt {sb:Nat} {w:World} {tv:Value} {n:Nat} (h:Sc sb w tv n):sb<w.heap.size:=World.block_lt_of_cell? w _ h.c0
theorem Sc.K {sb:Nat} {w w':World} {tv:Value} {n:Nat} (h:Sc sb w tv n) (y:w.grownBy w' none):Sc sb w' tv n:=
 ⟨y.cell h.c0 (by simp),y.cell h.c1 (by simp),fun j=>(World.frozen?_of_block (y.block sb h.lt (by simp))).trans (h.fz j)⟩
theorem Sc.put {sb:Nat} {w:World} {tv:Value} {n:Nat} (h:Sc sb w tv n) (m:Int) (k:Nat) (E:m=k):Sc sb (w.setCell ⟨sb,1,none⟩ (.int .i64 m)) tv k:=by
 subst E;have D:=h.c0;have y:=h.c1;have A:=h.fz;exact ⟨by simp [go_sem,D],by simp [go_sem,y],fun j=>by simpa using A j⟩
structure Tx (B:Nat) (w:World) (tv:Value) (zs:List Int):Prop where
 rd:RdB B w tv zs
 sl:Sl tv zs.length
 by_:Bys zs
 len:zs.length<=1048576
theorem Tx.K {B:Nat} {w w':World} {tv:Value} {zs:List Int} (h:Tx B w tv zs) (y:w.grownBy w' none):Tx B w' tv zs:=⟨h.rd.K y,h.sl,h.by_,h.len⟩
theorem Tx.beside {B sb:Nat} {w w':World} {tv:Value} {zs:List Int} (h:Tx B w tv zs) (y:B<=sb) (A:w.grownBy w' (some sb)):Tx B w' tv zs:=
 ⟨h.rd.beside A (fun k e=>by cases e;exact y),h.sl,h.by_,h.len⟩
theorem sX (w:World) (sb j:Nat) (x:Value):w.grownBy (w.setCell ⟨sb,j,none⟩ x) (some sb):=by
 refine ⟨rfl,rfl,rfl,by simp,fun i y h=>?_⟩;exact Below.heap_setCell _ _ _ _ (fun e=>h (by rw [e]))
theorem mZ {a b:World} {r:Option Nat} (h:a.grownBy b r):a.grownBy b.drew r:=⟨h.os,h.tape,h.output,h.size,h.block⟩
theorem fW {a b:World} {r:Option Nat} (h:a.grownBy b none):a.grownBy b r:=⟨h.os,h.tape,h.output,h.size,fun i y _=>h.block i y (by simp)⟩
theorem aAZ (sb n:Nat) (tv:Value) (zs:List Int) (w:World) (h:Sc sb w tv n) (y:Tx sb w tv zs) :
  Calls prog 145 #[.pointer (some ⟨sb,0,none⟩)] w fun e w'=>e=.returned (.bool ((n:Int)==(zs.length:Int)))/\w.grownBy w' none:=by
 obtain ⟨a,cap,rfl,_⟩:=y.rd;have D:=h.c0;have A:=h.c1
 go_enter func145,ntmps145
 go_wp2_with fail
 go_quiet (fail)
 go_wp2;go_ret;exact ⟨rfl,cO (World.grownBy.refl _ _) _⟩
theorem aD3 (sb n:Nat) (tv:Value) (zs:List Int) (w:World) (hT:Tab w) (h:Sc sb w tv n) (S:Tx sb w tv zs) (hn:n<=zs.length) :
  Calls prog 177 #[.pointer (some ⟨sb,0,none⟩)] w fun e w'=>e=.returned (.int .i32 (nxP zs n))/\Sc sb w' tv (n+nxS zs n)/\w.grownBy w' (some sb):=by
 have hE:=aAZ sb n tv zs w h S;have O:=aB h;have h0:=h.c0;have h1:=h.c1;have h2:=h.fz;have c6:=h.lt;have b7:=S.len;have a8:=S.by_;clear h
 by_cases y:n<zs.length
 ·have D:((n:Int)==(zs.length:Int))=false:=(by simp;omega);obtain ⟨a,cap,rfl,hr⟩:=S.rd;obtain ⟨b,off,rfl,hb,hc⟩:=hr (fun e=>by simp [e] at y);obtain ⟨a',J,E,b5,a4⟩:=S.sl;have a6:cap=J:=(by simp at E;exact E.2);subst a6;unfold maxLen at a4;have c2:b<w.heap.size:=(by omega);obtain ⟨s,G⟩:∃ s,s=zs.drop n:=⟨_,rfl⟩;have a5:s.length=zs.length - n:=by rw [G,List.length_drop]
  have U:∀ W,w.grownBy W none->RdB W.heap.size W (.slice (some ⟨b,off+n,none⟩) (zs.length - n) (cap - n)) s:=by
   intro W Y;refine ⟨some ⟨b,off+n,none⟩,cap - n,by rw [a5],fun _=>⟨b,off+n,rfl,by have:=Y.size;omega,fun j hj=>?_⟩⟩;rw [Nat.add_assoc,Y.cell (hc (n+j) (by omega)) (by simp),G,oN]
  have X:Bys s:=fun z hz=>a8 z (by rw [G] at hz;exact List.mem_of_mem_drop hz);have A:=fun W Y=>qO _ s W (hT.K Y) (U W Y) X (by omega) (by omega);have HP:Hid (nxP zs n=fpP s):=(by rw [Hid,aCA y,G]);have HS:Hid (nxS zs n=aL s):=(by rw [Hid,aEX y,G]);have a7:aL s<=zs.length:=(by have:=tQ s;omega);have c4:¬ cap=n:=(by omega);clear hr hc E G U X;generalize fpP s=p at A HP;generalize aL s=m at A HS a7
  go_enter func177,ntmps177
  go_wp2_with fail
  refine hE.mono ?_;rintro e w0 ⟨rfl,Z⟩;rw [D];have c0:=Z.cell h0 (by simp);have c1:=Z.cell h1 (by simp);have HF:=aB (A w0.drew (mZ Z));clear h0 h1 h2 A
  go_wp2_with fail
  go_region_with (go_at_call 147;refine HF.out.mono ?_;rintro e w1 ⟨rfl,N⟩)
  all_goals
   have M:=aA (mZ Z) (aC N);have k:=O.out.K M;have k0:=k.c0;have k1:=k.c1;have k2:=k.fz;have HK:=aB k;clear k N;go_wp2;go_ret;refine ⟨by rw [HP.out];rfl,by rw [HS.out];exact HK.out.put _ _ (by go_num),aA (fW M) (sX _ _ _ _)⟩
 ·have D:((n:Int)==(zs.length:Int))=true:=by simp;omega
  go_enter func177,ntmps177
  go_wp2_with fail
  refine hE.mono ?_;rintro e w1 ⟨rfl,M⟩;rw [D];go_wp2;go_ret;exact ⟨by rw [aCo y];rfl,by rw [aJU y];exact O.out.K M,fW M⟩
theorem eZ (xs:List Int):(strOfNums xs).toList=xs.map fun n=>UInt8.ofNat n.toNat:=by
 rw [ByteArray.toList_eq];rfl
theorem aLH {x y:Int} (D:0<=x/\x<=255) (A:0<=y/\y<=255) (h:UInt8.ofNat x.toNat=UInt8.ofNat y.toNat):x=y:=by
 have:=congrArg UInt8.toNat h;simp only [UInt8.toNat_ofNat'] at this;omega
theorem aE3:∀ {xs ys:List Int},Bys xs->Bys ys->(xs.map (fun n=>UInt8.ofNat n.toNat))=(ys.map (fun n=>UInt8.ofNat n.toNat))->xs=ys
 | [],[],_,_,_=>rfl
 | [],_::_,_,_,h=>by simp at h
 | _::_,[],_,_,h=>by simp at h
 | x::xs,y::ys,hx,hy,h=>by
   simp only [List.map_cons,List.cons.injEq] at h;rw [aLH (hx x (by simp)) (hy y (by simp)) h.1,aE3 (fun z A=>hx z (by simp [A])) (fun z A=>hy z (by simp [A])) h.2]
theorem aBT {xs ys:List Int} (A:Bys xs) (y:Bys ys):((strOfNums xs).toList==(strOfNums ys).toList)=decide (xs=ys):=by
 rw [eZ,eZ]
 by_cases h:xs=ys
 ·subst h;simp
 ·have:¬ (xs.map (fun n=>UInt8.ofNat n.toNat))=(ys.map (fun n=>UInt8.ofNat n.toNat)):=fun e=>h (aE3 A y e);simp [h,this]
theorem oX {B:Nat} {w:World} {v:Value} {xs:List Int} (h:Rd .u8 B w v xs):(convert 22 9 v).run prog w=.ok (.string (strOfNums xs)) w:=by
 obtain ⟨a,cap,rfl,D⟩:=h
 by_cases y:xs=[]
 ·subst y;cases a with
  | none=>exact run_convert_bytes_nil w 22 5 underlying22 underlying5 _ _ 9 underlying9
  | some x=>
    rw [run_convert_bytes_string w 22 9 5 _ _ cap underlying22 underlying5 underlying9];have:=run_bytesToString (P:=prog) w x 0 cap [] (run_loadCells_list (P:=prog) w x [] (fun j v G=>by simp at G));rw [show ([]:List Int).length=0 from rfl,this];rfl
 ·obtain ⟨b,off,rfl,J,A⟩:=D y;exact run_convert_bytes_arg w 22 5 underlying22 underlying5 b off xs.length cap xs rfl (fun i E=>by rw [A i E];simp [List.getD]) 9 underlying9
theorem aAt (D y:Value) (xs ys:List Int) (w:World) (h:RdB w.heap.size w D xs) (E:RdB w.heap.size w y ys) (J:Bys xs) (G:Bys ys) :
  Calls prog 163 #[D,y] w fun e w'=>e=.returned (.bool (decide (xs=ys)))/\w=w':=by
 have O:=oX h;have N:=oX E;have M:=aB (aBT J G);obtain ⟨a,cap,rfl,_⟩:=h;obtain ⟨S,A,rfl,_⟩:=E
 go_enter func163,ntmps163
 go_wp2;go_ret;exact ⟨by rw [<- M.out];rfl,rfl⟩
theorem aCX (xs ys:List Int):decide (ys <+: xs)=decide (xs.take ys.length=ys):=by
 exact decide_eq_decide.2 (List.prefix_iff_eq_take.trans eq_comm)
theorem aAP (O Z:Value) (xs ys:List Int) (w:World) (X:RdB w.heap.size w O xs) (s1:Sl O xs.length) (N:RdB w.heap.size w Z ys) (b1:Bys xs) (b2:Bys ys) (_hl:xs.length<=1048576) (a6:ys.length<=1048576) :
  Calls prog 175 #[O,Z] w fun e w'=>e=.returned (.bool (decide (ys <+: xs)))/\w=w':=by
 obtain ⟨a,cap,hv,Y,M⟩:=s1;obtain ⟨a',S,E,_⟩:=id N
 by_cases y:ys.length<=xs.length
 ·have J:=aB (aCX xs ys)
  have G:RdB w.heap.size w (.slice a ys.length cap) (xs.take ys.length):=by
   obtain ⟨a2,D,A,G⟩:=X;have e:a=a2/\cap=D:=(by rw [hv] at A;simpa using A);refine ⟨a,cap,by rw [List.length_take_of_le y],fun h0=>?_⟩;obtain ⟨b,off,ha,hb,hc⟩:=G (fun e=>h0 (by rw [e];simp));refine ⟨b,off,by rw [e.1];exact ha,hb,fun j U=>?_⟩;rw [List.length_take_of_le y] at U;rw [hc j (by omega)];simp [U]
  have HE:=aB (aAt _ _ _ _ w G N (fun z hz=>b1 z (List.mem_of_mem_take hz)) b2);subst hv E;clear X N G;unfold maxLen at M
  go_enter func175,ntmps175
  go_wp2_with (go_at_call 163;refine HE.out.mono ?_;rintro e w' ⟨rfl,rfl⟩)
  go_ret;exact ⟨by rw [J.out];rfl,rfl⟩
 ·have J:Hid (decide (ys <+: xs)=false):=by
   simp only [Hid,decide_eq_false_iff_not];intro h;exact y h.length_le
  subst hv E
  go_enter func175,ntmps175
  go_wp2;go_ret;exact ⟨by rw [J.out];rfl,rfl⟩
end Go.Proofs.YtmfehflibkokbaaGreatDoor
namespace Go.Proofs.YtmfehflibkokbaaGreatDoor
open Go.Proofs.Tryz
open Go.RowKit
attribute [-go_sem] run_index_string
theorem qK {zs:List Int} (A:Bys zs) {k:Nat} (h:k<zs.length) (W:World) :
  (Instr.index 9 (.string (strOfNums zs)) (.int .i64 (k:Int))).run prog W=.ok (.int .u8 (zs[k]?.getD 0)) W:=by
 rw [run_index_string W 9 (strOfNums zs) .i64 (k:Int) underlying9];have y:(strOfNums zs).size=zs.length:=strOfNums_size zs;rw [dif_pos ⟨by omega,by rw [y];omega⟩];have D:=A _ (List.getElem_mem h);congr 2;simp only [Int.toNat_natCast]
 have:((strOfNums zs)[k]'(by rw [y];exact h))=UInt8.ofNat (zs[k]).toNat:=by
  simp [strOfNums,ByteArray.getElem_eq_getElem_data]
 rw [this];simp [h];omega
theorem bS (zs:List Int) (w:World) (O:Bys zs) (Z:zs.length<=1048576) :
  Calls prog 137 #[.string (strOfNums zs)] w fun e w'=>e=.returned (.bool (aV zs))/\w=w':=by
 have N:∀ (x:Bool) (w:World),(Op.unary .not (.bool x)).run prog w=.ok (.bool (!x)) w:=fun _ _=>rfl;have Y:(strOfNums zs).size=zs.length:=strOfNums_size zs
 go_enter func137,ntmps137
 go_wp2
 go_loopw [3] (fun i wr=>∃ k:Nat,k<=zs.length/\i=.int .i64 k/\(zs.take k).all aK=true/\w=wr)
  (fun i _=>zs.length - (intOf i).toNat)
 case atStart=>exact ⟨0,Nat.zero_le _,rfl,rfl,rfl⟩
 case round=>
  obtain ⟨k,hk,rfl,h,rfl⟩:=hrel
  by_cases y:k<zs.length
  ·have A:=aB (lE zs aK k y h);have E:=aB (xU zs aK k y);have J:=qK O y w;have D:=O.get k;generalize zs[k]?.getD 0=p at J A E D;obtain ⟨X,U⟩:=D;cases G:aK p
   ·have M:Hid (aV zs=false):=E.out G
    go_wp2_with (go_at_call 139;refine (dX _ _).mono ?_;rintro e w' ⟨rfl,rfl⟩;rw [G])
    go_ret;exact ⟨by rw [M.out];rfl,rfl⟩
   ·have S:Hid ((zs.take (k+1)).all aK=true):=A.out G
    go_wp2_with (go_at_call 139;refine (dX _ _).mono ?_;rintro e w' ⟨rfl,rfl⟩;rw [G])
    go_roundw
    case rel=>exact ⟨k+1,by omega,by go_num,S.out,trivial⟩
    case measure=>simp [intOf];omega
  ·have M:Hid (aV zs=true):=by
    rw [List.take_of_length_le (by omega)] at h;exact h
   clear h;go_wp2;go_ret;exact ⟨by rw [M.out];rfl,rfl⟩
theorem aEU (zs:List Int) (w:World) (N:Bys zs) (Z:zs.length<=1048576) :
  Calls prog 135 #[.string (strOfNums zs)] w fun e w'=>e=.returned (.bool (zs.all eE&&decide (0<zs.length)))/\w=w':=by
 have M:∀ (x:Bool) (w:World),(Op.unary .not (.bool x)).run prog w=.ok (.bool (!x)) w:=fun _ _=>rfl;have Y:(strOfNums zs).size=zs.length:=strOfNums_size zs
 go_enter func135,ntmps135
 go_wp2
 go_loopw [3] (fun i wr=>∃ k:Nat,k<=zs.length/\i=.int .i64 k/\(zs.take k).all eE=true/\w=wr)
  (fun i _=>zs.length - (intOf i).toNat)
 case atStart=>exact ⟨0,Nat.zero_le _,rfl,rfl,rfl⟩
 case round=>
  obtain ⟨k,hk,rfl,h,rfl⟩:=hrel
  by_cases D:k<zs.length
  ·have y:=aB (lE zs eE k D h);have A:=aB (xU zs eE k D);have G:=qK N D w;have E:=N.get k;generalize zs[k]?.getD 0=p at G y A E;obtain ⟨X,U⟩:=E
   by_cases O:0<=jF p
   ·have S:Hid ((zs.take (k+1)).all eE=true):=y.out (by simp [eE,O]);clear y A
    go_wp2_with (go_at_call 154;refine (aBt _ _).mono ?_;rintro e w' ⟨rfl,rfl⟩)
    go_roundw
    case rel=>exact ⟨k+1,by omega,by go_num,S.out,trivial⟩
    case measure=>simp [intOf];omega
   ·have J:Hid ((zs.all eE&&decide (0<zs.length))=false):=(by rw [Hid,A.out (by simp [eE];omega)];rfl);clear y A
    go_wp2_with (go_at_call 154;refine (aBt _ _).mono ?_;rintro e w' ⟨rfl,rfl⟩)
    go_ret;exact ⟨by rw [J.out];rfl,rfl⟩
  ·have J:Hid ((zs.all eE&&decide (0<zs.length))=decide (0<zs.length)):=by
    rw [List.take_of_length_le (by omega)] at h;rw [Hid,h];rfl
   clear h;go_wp2;go_ret;exact ⟨by rw [J.out];rfl,rfl⟩
theorem kM (zs:List Int) (h y:Nat):(strOfNums zs).extract h y=strOfNums ((zs.drop h).take (y - h)):=by
 apply ByteArray.ext;simp only [strOfNums,ByteArray.data_extract];apply Array.ext';simp [List.map_take,List.map_drop]
def gY (zs:List Int):Int:=if zs.any (· == 46) then ((zs.takeWhile (· != 46)).length:Int) else -1
theorem xS {zs a b:List Int} (h:zs=a++46::b) (A:∀ y∈a,(y != 46)=true):gY zs=a.length:=by
 subst h;unfold gY;rw [if_pos (by simp),(oQ (b:=b) A (by decide)).1]
theorem aEe {zs:List Int} (E:∀ y∈zs,(y != 46)=true):gY zs = -1:=by
 unfold gY;rw [if_neg];intro A;rw [List.any_eq_true] at A;obtain ⟨y,D,h⟩:=A;have:=E y D;simp at this h;exact this h
theorem aFU (zs:List Int):(∀ y∈zs,(y != 46)=true)\/∃ a b,zs=a++46::b/\∀ y∈a,(y != 46)=true:=by
 rcases nR (fun c=>c != 46) zs with h | ⟨a,x,b,h,D,E⟩
 ·exact .inl h
 ·have A:x=46:=(by simpa using E);subst A;exact .inr ⟨a,b,h,D⟩
theorem aI1 (zs:List Int) (c:Int):gY (zs++[c])=if 0<=gY zs then gY zs else if c=46 then (zs.length:Int) else -1:=by
 rcases aFU zs with h | ⟨a,b,rfl,E⟩
 ·rw [aEe h,if_neg (by omega)]
  by_cases D:c=46
  ·subst D;rw [if_pos rfl,xS rfl h]
  ·rw [if_neg D];refine aEe (fun y A=>?_);rcases List.mem_append.1 A with A | A
   ·exact h y A
   ·simp at A;subst A;simpa using D
 ·rw [xS rfl E,if_pos (by omega),xS (a:=a) (b:=b++[c]) (by simp) E]
theorem aLi (zs:List Int) : -1<=gY zs/\gY zs<=zs.length:=by
 rcases aFU zs with h | ⟨a,b,rfl,y⟩
 ·rw [aEe h];omega
 ·rw [xS rfl y];simp;omega
theorem aDk {zs:List Int} (h:gY zs<0):zs.takeWhile (· != 46)=zs/\(zs.dropWhile (· != 46)).tail=[]/\gY zs = -1:=by
 unfold gY at h ⊢
 split at h
 ·omega
 ·rename_i hn
  have A:∀ y∈zs,(y != 46)=true:=by
   intro y D;simp only [List.any_eq_true,not_exists,not_and] at hn;have:=hn y D;simpa using this
  have:=aFM A;exact ⟨this.1,by rw [this.2];rfl,if_neg hn⟩
theorem aIl {zs:List Int} (h:¬ gY zs<0):∃ p:Nat,gY zs=p/\p<zs.length/\zs.takeWhile (· != 46)=zs.take p/\(zs.dropWhile (· != 46)).tail=zs.drop (p+1):=by
 rcases nR (fun c=>c != 46) zs with O | ⟨a,x,b,rfl,N,J⟩
 ·exfalso;apply h;unfold gY;rw [if_neg]
  ·omega
  ·intro G;rw [List.any_eq_true] at G;obtain ⟨y,M,E⟩:=G;have:=O y M;simp at this E;exact this E
 ·have D:=oQ (b:=b) N J;have A:x=46:=(by simpa using J);refine ⟨a.length,?_,by simp,by rw [D.1,List.take_left],by rw [D.2,List.tail_cons,<- List.drop_drop,List.drop_left];rfl⟩;unfold gY;rw [if_pos (by simp [A]),D.1]
theorem dL (h:List Int):(strOfNums h).toList.isEmpty=decide (h=[]):=by
 rw [eZ];cases h<;>simp
theorem aE1 {y:List Int} (D:Bys y):((strOfNums y).toList==[48])=decide (y=[48]):=by
 have h:=aBT D (ys:=[48]) (fun z A=>by simp at A;omega);rw [show (strOfNums [48]).toList=[48] from by rw [eZ];rfl] at h;exact h
theorem aFy {y:List Int} (A:Bys y):((strOfNums y).toList=[48])=(y=[48]):=by
 have:=aE1 A
 by_cases h:y=[48]
 ·rw [decide_eq_true h] at this;simpa [h] using this
 ·rw [decide_eq_false h] at this;simpa [h] using this
theorem fG {zs:List Int} (h:Bys zs) (y:zs≠[]) (W:World) :
  (Instr.index 9 (.string (strOfNums zs)) (.int .i64 0)).run prog W=.ok (.int .u8 (zs[0]?.getD 0)) W:=by
 simpa using qK h (k:=0) (List.length_pos_iff.2 y) W
def wpS (pt:Bool) (ws ps:List Int):Bool:=if !aV ws || !aV ps then false else if ws=[] then pt&&decide (ps≠[]) else (decide (ws=[48])||decide (ws[0]?.getD 0≠48))
theorem aGx {zs:List Int} (h:gY zs<0):cJ zs=wpS false zs []:=by
 obtain ⟨D,A,_⟩:=aDk h;unfold cJ wpS;simp only [D,A]
 by_cases y:zs=[]
 ·simp [y]
 ·simp [y]
theorem aGE {zs:List Int} {p:Nat} (A:p<zs.length) (y:zs.takeWhile (· != 46)=zs.take p) (h:(zs.dropWhile (· != 46)).tail=zs.drop (p+1)):cJ zs=wpS true (zs.take p) (zs.drop (p+1)):=by
 unfold cJ wpS;simp only [y,h];rw [show decide ((zs.take p).length<zs.length)=true by simp;omega]
theorem vE (zs:List Int) (w:World) (X:Bys zs) (hl:zs.length<=1048576) :
  Calls prog 136 #[.string (strOfNums zs)] w fun e w'=>e=.returned (.bool (cJ zs))/\w=w':=by
 have c2:∀ (x:Bool) (w:World),(Op.unary .not (.bool x)).run prog w=.ok (.bool (!x)) w:=fun _ _=>rfl;have c8:(strOfNums zs).size=zs.length:=strOfNums_size zs
 go_enter func136,ntmps136
 go_wp2
 go_loopw [3,4] (fun p i wr=>∃ k:Nat,k<=zs.length/\i=.int .i64 k/\p=.int .i64 (gY (zs.take k))/\w=wr)
  (fun _ i _=>zs.length - (intOf i).toNat)
 case atStart=>exact ⟨0,Nat.zero_le _,rfl,rfl,rfl⟩
 case round=>
  obtain ⟨k,hk,rfl,rfl,rfl⟩:=hrel
  by_cases a8:k<zs.length
  ·have Z:=aI1 (zs.take k) (zs[k]?.getD 0);rw [<- eG zs k a8,List.length_take_of_le hk] at Z;have M:=qK X a8 w;have b0:=X.get k;generalize zs[k]?.getD 0=c at M Z b0;obtain ⟨S,c7⟩:=b0;have HS:=aB Z;clear Z;have b3:=aLi (zs.take k);generalize gY (zs.take k)=d at HS b3
   by_cases J:c=46
   ·have e1:(c==46)=true:=by simp [J]
    by_cases hd:d<0
    ·have HT:Hid (gY (zs.take (k+1))=(k:Int)):=(by rw [Hid,HS.out,if_neg (by omega),if_pos J]);clear J;go_wp2
     go_roundw
     case rel=>exact ⟨k+1,by omega,by go_num,by rw [HT.out],trivial⟩
     case measure=>simp [intOf];omega
    ·have HT:Hid (gY (zs.take (k+1))=d):=(by rw [Hid,HS.out,if_pos (by omega)]);clear J;go_wp2
     go_roundw
     case rel=>exact ⟨k+1,by omega,by go_num,by rw [HT.out],trivial⟩
     case measure=>simp [intOf];omega
   ·have e1:(c==46)=false:=by simp [J]
    have HT:Hid (Value.int .i64 d=.int .i64 (gY (zs.take (k+1)))):=by
     rw [Hid,HS.out]
     by_cases hd:0<=d
     ·rw [if_pos hd]
     ·rw [if_neg hd,if_neg J,show d = -1 by omega]
    go_wp2
    go_roundw
    case rel=>exact ⟨k+1,by omega,by go_num,HT.out,trivial⟩
    case measure=>simp [intOf];omega
  ·have b1:zs.take k=zs:=List.take_of_length_le (by omega);rw [b1];clear b1;have b7:=aB (fun h=>aGx (zs:=zs) h)
   by_cases hd:gY zs<0
   ·have HM:Hid (cJ zs=wpS false zs []):=b7.out hd;have a9:=(aDk hd).2.2;have D:=aB (bS zs w X hl);have E:=aB (bS [] w (fun z A=>by simp at A) (by simp));rw [a9];clear hd a9;cases G:aV zs
    ·have HV:Hid (cJ zs=false):=(by rw [Hid,HM.out];unfold wpS;simp [G]);rw [G] at D
     go_wp2_with fail
     refine (D.out).mono ?_;rintro e w' ⟨rfl,rfl⟩;go_wp2;go_ret;exact ⟨by rw [HV.out];rfl,rfl⟩
    ·cases U:aV []
     ·have HV:Hid (cJ zs=false):=(by rw [Hid,HM.out];unfold wpS;simp [G,U]);rw [G] at D;rw [U] at E
      go_wp2_with fail
      refine (D.out).mono ?_;rintro e w' ⟨rfl,rfl⟩
      go_wp2_with fail
      refine (E.out).mono ?_;rintro e w' ⟨rfl,rfl⟩;go_wp2;go_ret;exact ⟨by rw [HV.out];rfl,rfl⟩
     ·have O:Hid (cJ zs=if zs=[] then false&&decide (([]:List Int)≠[]) else (decide (zs=[48])||decide ((zs)[0]?.getD 0≠48))):=(by rw [Hid,HM.out];unfold wpS;simp [G,U]);rw [G] at D;rw [U] at E
      by_cases A:zs=[]
      ·have e0:(strOfNums (zs)).toList.isEmpty=true:=(by rw [dL,decide_eq_true A]);have HV:Hid (cJ zs=false):=(by rw [Hid,O.out,if_pos A];rfl);clear A
       go_wp2_with fail
       refine (D.out).mono ?_;rintro e w' ⟨rfl,rfl⟩
       go_wp2_with fail
       refine (E.out).mono ?_;rintro e w' ⟨rfl,rfl⟩;go_wp2;go_ret;exact ⟨by rw [HV.out];rfl,rfl⟩
      ·have e0:(strOfNums (zs)).toList.isEmpty=false:=(by rw [dL,decide_eq_false A]);have M:=fG X A w;have S:=(Bys.get X 0).1;have e1:=aE1 X;have Y:=aFy X
       by_cases y:zs=[48]
       ·rw [decide_eq_true y] at e1;have e3:(strOfNums (zs)).toList=[48]:=(by rw [Y];exact y);have HV:Hid (cJ zs=true):=(by rw [Hid,O.out,if_neg A,decide_eq_true y];rfl);clear A y Y
        go_wp2_with fail
        refine (D.out).mono ?_;rintro e w' ⟨rfl,rfl⟩
        go_wp2_with fail
        refine (E.out).mono ?_;rintro e w' ⟨rfl,rfl⟩;go_wp2;go_ret;exact ⟨by rw [HV.out];rfl,rfl⟩
       ·rw [decide_eq_false y] at e1;have e3:¬ (strOfNums (zs)).toList=[48]:=(by rw [Y];exact y);have HV:Hid (cJ zs=decide ((zs)[0]?.getD 0≠48)):=(by rw [Hid,O.out,if_neg A,decide_eq_false y];rfl);clear A y Y O;generalize (zs)[0]?.getD 0=c0 at M HV S;have HC:Hid ((c0 != 48)=decide (c0≠48)):=by rw [Hid,Bool.eq_iff_iff];simp
        go_wp2_with fail
        refine (D.out).mono ?_;rintro e w' ⟨rfl,rfl⟩
        go_wp2_with fail
        refine (E.out).mono ?_;rintro e w' ⟨rfl,rfl⟩;go_wp2;go_ret;exact ⟨by rw [HV.out,<- HC.out];rfl,rfl⟩
   ·obtain ⟨p,hp,b5,t1,t2⟩:=aIl hd;have HM:Hid (cJ zs=wpS true (zs.take p) (zs.drop (p+1))):=aGE b5 t1 t2;rw [hp];clear hd t1 t2 hp;have N:Bys (zs.take p):=fun z A=>X z (List.mem_of_mem_take A);have b6:Bys (zs.drop (p+1)):=fun z A=>X z (List.mem_of_mem_drop A);have x1:(strOfNums zs).extract 0 p=strOfNums (zs.take p):=by rw [kM];simp
    have x2:(strOfNums zs).extract (p+1) zs.length=strOfNums (zs.drop (p+1)):=by
     rw [kM,List.take_of_length_le (by rw [List.length_drop];omega)]
    have D:=aB (bS (zs.take p) w N (by rw [List.length_take];omega));have E:=aB (bS (zs.drop (p+1)) w b6 (by rw [List.length_drop];omega));cases G:aV (zs.take p)
    ·have HV:Hid (cJ zs=false):=(by rw [Hid,HM.out];unfold wpS;simp [G]);rw [G] at D
     go_wp2_with fail
     refine (D.out).mono ?_;rintro e w' ⟨rfl,rfl⟩;go_wp2;go_ret;exact ⟨by rw [HV.out];rfl,rfl⟩
    ·cases U:aV (zs.drop (p+1))
     ·have HV:Hid (cJ zs=false):=(by rw [Hid,HM.out];unfold wpS;simp [G,U]);rw [G] at D;rw [U] at E
      go_wp2_with fail
      refine (D.out).mono ?_;rintro e w' ⟨rfl,rfl⟩
      go_wp2_with fail
      refine (E.out).mono ?_;rintro e w' ⟨rfl,rfl⟩;go_wp2;go_ret;exact ⟨by rw [HV.out];rfl,rfl⟩
     ·have O:Hid (cJ zs=if (zs.take p)=[] then true&&decide (zs.drop (p+1)≠[]) else (decide (zs.take p=[48])||decide ((zs.take p)[0]?.getD 0≠48))):=(by rw [Hid,HM.out];unfold wpS;simp [G,U]);rw [G] at D;rw [U] at E
      by_cases A:(zs.take p)=[]
      ·have e0:(strOfNums (zs.take p)).toList.isEmpty=true:=(by rw [dL,decide_eq_true A]);have HV:Hid (cJ zs = !(strOfNums (zs.drop (p+1))).toList.isEmpty):=(by rw [Hid,O.out,if_pos A,dL];simp only [ne_eq,decide_not,Bool.true_and]);clear A
       go_wp2_with fail
       refine (D.out).mono ?_;rintro e w' ⟨rfl,rfl⟩
       go_wp2_with fail
       refine (E.out).mono ?_;rintro e w' ⟨rfl,rfl⟩;go_wp2;go_ret;exact ⟨by rw [HV.out];rfl,rfl⟩
      ·have e0:(strOfNums (zs.take p)).toList.isEmpty=false:=(by rw [dL,decide_eq_false A]);have M:=fG N A w;have S:=(Bys.get N 0).1;have e1:=aE1 N;have Y:=aFy N
       by_cases y:zs.take p=[48]
       ·rw [decide_eq_true y] at e1;have e3:(strOfNums (zs.take p)).toList=[48]:=(by rw [Y];exact y);have HV:Hid (cJ zs=true):=(by rw [Hid,O.out,if_neg A,decide_eq_true y];rfl);clear A y Y
        go_wp2_with fail
        refine (D.out).mono ?_;rintro e w' ⟨rfl,rfl⟩
        go_wp2_with fail
        refine (E.out).mono ?_;rintro e w' ⟨rfl,rfl⟩;go_wp2;go_ret;exact ⟨by rw [HV.out];rfl,rfl⟩
       ·rw [decide_eq_false y] at e1;have e3:¬ (strOfNums (zs.take p)).toList=[48]:=(by rw [Y];exact y);have HV:Hid (cJ zs=decide ((zs.take p)[0]?.getD 0≠48)):=(by rw [Hid,O.out,if_neg A,decide_eq_false y];rfl);clear A y Y O;generalize (zs.take p)[0]?.getD 0=c0 at M HV S;have HC:Hid ((c0 != 48)=decide (c0≠48)):=by rw [Hid,Bool.eq_iff_iff];simp
        go_wp2_with fail
        refine (D.out).mono ?_;rintro e w' ⟨rfl,rfl⟩
        go_wp2_with fail
        refine (E.out).mono ?_;rintro e w' ⟨rfl,rfl⟩;go_wp2;go_ret;exact ⟨by rw [HV.out,<- HC.out];rfl,rfl⟩
end Go.Proofs.YtmfehflibkokbaaGreatDoor
namespace Go.Proofs.YtmfehflibkokbaaGreatDoor
open Go.Proofs.Tryz
open Go.RowKit
theorem Tx.wide {B B':Nat} {w:World} {tv:Value} {zs:List Int} (h:Tx B w tv zs) (N:B<=B'):Tx B' w tv zs:=by
 obtain ⟨⟨a,cap,hv,G⟩,M,E,y⟩:=h;refine ⟨⟨a,cap,hv,fun D=>?_⟩,M,E,y⟩;obtain ⟨b,off,J,O,A⟩:=G D;exact ⟨b,off,J,by omega,A⟩
theorem aH1 (w:World) (tv:Value) (n:Nat):Sc w.heap.size (w.alloc (.cells #[tv,.int .i64 n] 213)) tv n:=
 ⟨by simp [go_sem],by simp [go_sem],fun j=>by simp [go_sem]⟩
theorem tC {a b c:World} {k:Nat} (h:a.grownBy b none) (y:a.heap.size<=k) (g:b.grownBy c (some k)):a.grownBy c none:=bA h g (fun j e=>by cases e;exact y)
theorem aDh (sb n:Nat) (tv:Value) (zs:List Int) (w:World) (E:Tab w) (h:Sc sb w tv n) (D:Tx sb w tv zs) (M:n<=zs.length) :
  Calls prog 176 #[.pointer (some ⟨sb,0,none⟩)] w fun e w'=>e=.returned (.int .i32 (nxP zs n))/\w.grownBy w' none:=by
 have A:=h.lt;have S:=h.c0;have U:=h.c1;have y:=World.grownBy_alloc w (.cells #[tv,.int .i64 n] 213) none;have G:=aD3 w.heap.size n tv zs _ (E.K y) (aH1 w tv n) ((D.wide (Nat.le_of_lt A)).K y) M;obtain ⟨a,cap,rfl,_⟩:=D.rd;have J:=aB y;have O:=aB G;clear h D E G y
 go_enter func176,ntmps176
 go_wp2_with (go_at_call 177;refine O.out.mono ?_;rintro e X ⟨rfl,_,N⟩)
 go_ret;exact ⟨rfl,tC J.out (Nat.le_refl _) N⟩
structure aJt (cf:Nat) (P:Int->Bool):Prop where
 call:∀ (p:Int) (W:World),Calls prog cf #[.int .i32 p] W fun e w'=>e=.returned (.bool (P p))/\W=w'
 enter:∀ (args:Array Value) (W:World),(callFunc cf args).run prog W=.ok (.enter cf args) W
theorem Tab.row {w w':World} {sb:Nat} (h:Tab w) (A:0<sb) (y:w.grownBy w' (some sb)):Tab w':=
 have e:some 0≠some sb:=by simp;omega
 ⟨y.cell h.c0 e,y.cell h.c1 e,y.cell h.c2 e,y.cell h.c3 e,y.cell h.c4 e⟩
def atOf (sb:Nat) (w:World):Nat:=match w.cell? ⟨sb,1,none⟩ with
 | some v=>(intOf v).toNat
 | none=>0
theorem Sc.atOf {sb:Nat} {w:World} {tv:Value} {n:Nat} (h:Sc sb w tv n):atOf sb w=n:=by
 unfold Go.Proofs.YtmfehflibkokbaaGreatDoor.atOf;rw [h.c1];simp [intOf]
theorem aGJ (cf:Nat) (P:Int->Bool) (hP:aJt cf P) (sb n:Nat) (tv:Value) (zs:List Int) (w:World) (c4:0<sb) (M:Tab w) (h:Sc sb w tv n) (G:Tx sb w tv zs) (hn:n<=zs.length) :
  Calls prog 157 #[.pointer (some ⟨sb,0,none⟩),.func (.func cf) #[] #[]] w fun e w'=>e=.returned (.bool (decide (n<skN P zs (zs.length+1) n)))/\Sc sb w' tv (skN P zs (zs.length+1) n)/\skN P zs (zs.length+1) n<=zs.length/\w.grownBy w' (some sb):=by
 have c8:=G.len;have h1:=h.c1;have HC:=aB hP.call;have d6:=hP.enter;have b6:=aB (aDh sb n tv zs w M h G hn);have HS:=aB h;have c2:=aB G;have HT:=aB M;clear h G hP M
 go_enter func157,ntmps157
 go_wp2_with (go_at_call 176;refine b6.out.mono ?_;rintro e w1 ⟨rfl,g1⟩)
 go_loopw [6] (fun p wr=>∃ (k f:Nat),n<=k/\k<=zs.length/\p=.int .i32 (nxP zs k)/\Sc sb wr tv k/\Tx sb wr tv zs/\Tab wr/\w.grownBy wr (some sb)/\zs.length - k<f/\skN P zs f k=skN P zs (zs.length+1) n)
  (fun _ wr=>zs.length - atOf sb wr)
 case atStart=>exact ⟨n,zs.length+1,Nat.le_refl _,hn,rfl,HS.out.K g1,c2.out.K g1,HT.out.K g1,fW g1,by omega,rfl⟩
 case round=>
  obtain ⟨k,f,d4,hk,rfl,S,G,M,hg,hf,A⟩:=hrel;have c1:=S.c1;have c3:=aB S.atOf;obtain ⟨f',rfl⟩:∃ f',f=f'+1:=⟨f - 1,by omega⟩
  by_cases y:nxP zs k≠-1/\P (nxP zs k)=true
  ·have Z:=aJJ y.1;have O:=aLQ zs k hk;have E:=aB ((aHO (f:=f') y.1 y.2).symm.trans A);have Y:(nxP zs k != -1)=true:=(by simpa using y.1);have HN:=aB (aD3 sb k tv zs wr M S G hk);have X:=aB (fun W h=>aDh sb (k+nxS zs k) tv zs W h);have HQ:=aB y.2;have J:=HC.out (nxP zs k) wr;rw [y.2] at J;have c0:=aB M;have a7:=aB G;have HG:=aB hg;clear S G M hg A y h1;generalize nxP zs k=p at Y J HN;generalize nxS zs k=m at HN E X Z O
   go_wp2_with fail
   refine J.mono ?_;rintro e w2 ⟨rfl,rfl⟩;clear J
   go_wp2_with fail
   refine HN.out.mono ?_;rintro e w2 ⟨rfl,U,g2⟩;have a4:=a7.out.beside (Nat.le_refl _) g2;have a9:=c0.out.row c4 g2
   go_wp2_with fail
   refine (X.out _ a9 U a4 O).mono ?_;rintro e w3 ⟨rfl,g3⟩;go_wp2
   go_roundw
   case rel=>exact ⟨k+m,f',by omega,O,rfl,U.K g3,a4.K g3,a9.K g3,aA (aA HG.out g2) (fW g3),by omega,E.out⟩
   case measure=>rw [(U.K g3).atOf,c3.out];omega
  ·have E:Hid (skN P zs (zs.length+1) n=k):=by
    rw [Hid,<- A,skN,if_neg y]
   have b7:=aB S;have HG:=aB hg
   have D:∀ w',wr.grownBy w' none->Sc sb w' tv (skN P zs (zs.length+1) n)/\skN P zs (zs.length+1) n<=zs.length/\w.grownBy w' (some sb):=fun w' g=>by
    rw [E.out];exact ⟨b7.out.K g,hk,aA HG.out (fW g)⟩
   have N:=aB D;have HD:Hid (decide (n<skN P zs (zs.length+1) n)=decide (n<k)):=by rw [Hid,E.out]
   by_cases hm:nxP zs k = -1
   ·have Y:(nxP zs k != -1)=false:=(by rw [hm];rfl);clear S G M hg A y h1 D hm;generalize nxP zs k=p at Y;go_wp2;go_ret;exact ⟨by rw [HD.out];rfl,N.out _ (World.grownBy.refl _ _)⟩
   ·have Y:(nxP zs k != -1)=true:=(by simpa using hm);have J:=HC.out (nxP zs k) wr
    have a8:P (nxP zs k)=false:=by
     cases hh:P (nxP zs k)
     ·rfl
     ·exact absurd ⟨hm,hh⟩ y
    rw [a8] at J;clear S G M hg A y h1 D hm a8;generalize nxP zs k=p at Y J
    go_wp2_with fail
    refine J.mono ?_;rintro e w2 ⟨rfl,rfl⟩;clear J;go_wp2;go_ret;exact ⟨by rw [HD.out];rfl,N.out _ (World.grownBy.refl _ _)⟩
theorem aB4 (w:World) (h:List Int) (A:Bys h) (c:Nat) :
  RdB (w.alloc (.cells (bytesRow (strOfNums h) c) 5 ((bytesRow (strOfNums h) c).size,(bytesRow (strOfNums h) c).size+1))).heap.size (w.alloc (.cells (bytesRow (strOfNums h) c) 5 ((bytesRow (strOfNums h) c).size,(bytesRow (strOfNums h) c).size+1))) (.slice (some ⟨w.heap.size,0,none⟩) h.length c) h:=by
 refine ⟨_,c,rfl,fun _=>⟨w.heap.size,0,rfl,by simp,fun j y=>?_⟩⟩;have:=World.cell?_alloc_mark w (bytesRow (strOfNums h) c) 5 ((bytesRow (strOfNums h) c).size,(bytesRow (strOfNums h) c).size+1) j;rw [Nat.zero_add,this];have D:=A _ (List.getElem_mem y);unfold bytesRow;rw [Array.getElem?_append_left (by simp [strOfNums,y])];simp [strOfNums,y];omega
theorem Rd.heap {q:IntKind} {B:Nat} {w w':World} {v:Value} {zs:List Int} (h:Rd q B w v zs) (e:w'.heap=w.heap):Rd q B w' v zs:=by
 obtain ⟨a,cap,hv,D⟩:=h;refine ⟨a,cap,hv,fun y=>?_⟩;obtain ⟨b,off,E,G,A⟩:=D y;exact ⟨b,off,E,G,fun j J=>by rw [<- A j J];unfold World.cell?;rw [e]⟩
theorem Tx.from_ {B:Nat} {w:World} {a:Option Addr} {cap:Nat} {zs:List Int} (h:Tx B w (.slice a zs.length cap) zs) (n:Nat) (hn:n<=zs.length) :
  RdB B w (.slice (if cap=n then a else Option.map (fun x=>x.add n) a) (zs.length - n) (cap - n)) (zs.drop n)/\Sl (.slice (if cap=n then a else Option.map (fun x=>x.add n) a) (zs.length - n) (cap - n)) (zs.drop n).length/\Bys (zs.drop n):=by
 obtain ⟨a2,A,hv,U⟩:=h.rd;obtain ⟨Y,y,E,J,S⟩:=h.sl;have O:a=a2/\cap=A:=(by simpa using hv);have X:a=Y/\cap=y:=(by simpa using E);obtain ⟨rfl,rfl⟩:=O;obtain ⟨_,rfl⟩:=X;refine ⟨⟨_,cap - n,by rw [List.length_drop],fun N=>?_⟩,⟨_,cap - n,by rw [List.length_drop],by rw [List.length_drop];omega,by omega⟩,fun z M=>h.by_ z (List.mem_of_mem_drop M)⟩
 have D:n<zs.length:=by
  apply Classical.byContradiction;intro G;exact N (List.drop_of_length_le (by omega))
 obtain ⟨b,off,rfl,Z,G⟩:=U (fun e=>by simp [e] at D);rw [if_neg (by omega)];refine ⟨b,off+n,by simp [Addr.add],Z,fun j hj=>?_⟩;rw [List.length_drop] at hj;rw [Nat.add_assoc,G (n+j) (by omega),oN]
theorem Sc.drew {sb:Nat} {w:World} {tv:Value} {n:Nat} (h:Sc sb w tv n):Sc sb w.drew tv n:=⟨h.c0,h.c1,h.fz⟩
theorem zT (y:List Int) (Z:Bys y) (c7:y.length<=100) (sb n:Nat) (tv:Value) (zs:List Int) (w:World) (h:Sc sb w tv n) (Y:Tx sb w tv zs) (hn:n<=zs.length) :
  Calls prog 156 #[.pointer (some ⟨sb,0,none⟩),.string (strOfNums y)] w fun e w'=>e=.returned (.bool (decide (y <+: zs.drop n)))/\Sc sb w' tv (if y <+: zs.drop n then n+y.length else n)/\w.grownBy w' (some sb):=by
 have c2:∀ (x:Bool) (w:World),(Op.unary .not (.bool x)).run prog w=.ok (.bool (!x)) w:=fun _ _=>rfl;have h0:=h.c0;have h1:=h.c1;have A:=h.lt;have c9:(strOfNums y).size=y.length:=strOfNums_size y;have c4:=Y.len;have J:∀ W:World,_:=fun W=>run_bytes_of_string (P:=prog) W 9 22 5 (strOfNums y) underlying9 underlying22 underlying5;simp only [strOfNums_size] at J;obtain ⟨a,cap,rfl,_⟩:=Y.rd;obtain ⟨a',U,S,c3,b2⟩:=Y.sl;have b3:cap=U:=(by simp at S;exact S.2);subst b3;unfold maxLen at b2;have hF:=Y.from_ n hn;have hg:=World.grownBy_alloc w (.cells (bytesRow (strOfNums y) (grownCap w.drew y.length 0 5)) 5 ((bytesRow (strOfNums y) (grownCap w.drew y.length 0 5)).size,(bytesRow (strOfNums y) (grownCap w.drew y.length 0 5)).size+1)) none;have b8:sb<=(w.alloc (.cells (bytesRow (strOfNums y) (grownCap w.drew y.length 0 5)) 5 ((bytesRow (strOfNums y) (grownCap w.drew y.length 0 5)).size,(bytesRow (strOfNums y) (grownCap w.drew y.length 0 5)).size+1))).heap.size:=by simp;omega
 have X:=aB (fun v1 (r1:RdB _ _ v1 _) s1=>aAP v1 _ (zs.drop n) y (w.alloc (.cells (bytesRow (strOfNums y) (grownCap w.drew y.length 0 5)) 5 ((bytesRow (strOfNums y) (grownCap w.drew y.length 0 5)).size,(bytesRow (strOfNums y) (grownCap w.drew y.length 0 5)).size+1))).drew.drew
  r1 s1 ((aB4 w y Z _).heap rfl) hF.2.2 Z (by rw [List.length_drop];omega) (by omega) |>.mono fun e w' (hx:_/\_)=>(⟨hx.1,hx.2 ▸ (h.K hg).drew.drew,hx.2 ▸ mZ (mZ hg)⟩:_/\Sc sb w' (.slice a zs.length cap) n/\w.grownBy w' none))
 have HR:=aB ((hF.1.K hg).now.heap (w':=(w.alloc (.cells (bytesRow (strOfNums y) (grownCap w.drew y.length 0 5)) 5 ((bytesRow (strOfNums y) (grownCap w.drew y.length 0 5)).size,(bytesRow (strOfNums y) (grownCap w.drew y.length 0 5)).size+1))).drew.drew) rfl);have N:=aB hF.2.1;clear h Y S hF hg b8;obtain ⟨m,hm⟩:∃ m:Nat,m=if y <+: zs.drop n then n+y.length else n:=⟨_,rfl⟩
 rw [<- hm];have O:m=if decide (y <+: zs.drop n)=true then n+y.length else n:=(by rw [hm];simp);generalize decide (y <+: zs.drop n)=ok at X O ⊢;have HM:=aB O;clear hm O
 by_cases b6:cap=n
 ·have hz:zs.length=n:=by omega
  have HZ:Hid (∀ (a:Option Addr) (l c:Nat),l=0/\c=0->RdB (w.alloc (.cells (bytesRow (strOfNums y) (grownCap w.drew y.length 0 5)) 5 ((bytesRow (strOfNums y) (grownCap w.drew y.length 0 5)).size,(bytesRow (strOfNums y) (grownCap w.drew y.length 0 5)).size+1))).drew.drew.heap.size (w.alloc (.cells (bytesRow (strOfNums y) (grownCap w.drew y.length 0 5)) 5 ((bytesRow (strOfNums y) (grownCap w.drew y.length 0 5)).size,(bytesRow (strOfNums y) (grownCap w.drew y.length 0 5)).size+1))).drew.drew (.slice a l c) (zs.drop n)/\Sl (.slice a l c) (zs.drop n).length):=by
   rintro a l c ⟨rfl,rfl⟩;rw [List.drop_of_length_le (by omega)];exact ⟨⟨a,0,rfl,fun h=>absurd rfl h⟩,⟨a,0,rfl,Nat.le_refl _,by unfold maxLen;omega⟩⟩
  clear hz;cases ok
  ·go_enter func156,ntmps156
   go_wp2_with fail
   have q0:∀ o,((w.drew).drew.alloc o).cell? ⟨sb,0,none⟩=some (.slice a zs.length cap):=fun o=>(World.cell?_alloc_past _ _ _ A).trans h0;have q1:∀ o,((w.drew).drew.alloc o).cell? ⟨sb,1,none⟩=some (.int .i64 n):=fun o=>(World.cell?_alloc_past _ _ _ A).trans h1
   go_region_with (go_at_call 175;refine (X.out _ (HZ.out _ _ _ (by omega)).1 (HZ.out _ _ _ (by omega)).2).mono ?_;rintro e w1 ⟨rfl,D,M⟩)
   all_goals
    have G:=D.c1;have E:=D.fz;go_wp2;go_ret;exact ⟨rfl,by rw [HM.out];exact D,fW M⟩
  ·go_enter func156,ntmps156
   go_wp2_with fail
   have q0:∀ o,((w.drew).drew.alloc o).cell? ⟨sb,0,none⟩=some (.slice a zs.length cap):=fun o=>(World.cell?_alloc_past _ _ _ A).trans h0;have q1:∀ o,((w.drew).drew.alloc o).cell? ⟨sb,1,none⟩=some (.int .i64 n):=fun o=>(World.cell?_alloc_past _ _ _ A).trans h1
   go_region_with (go_at_call 175;refine (X.out _ (HZ.out _ _ _ (by omega)).1 (HZ.out _ _ _ (by omega)).2).mono ?_;rintro e w1 ⟨rfl,D,M⟩)
   all_goals
    have G:=D.c1;have E:=D.fz;go_wp2;go_ret;exact ⟨rfl,by rw [HM.out];exact D.put _ _ (by go_num),aA (fW M) (sX _ _ _ _)⟩
 ·rw [if_neg b6] at HR N;cases ok
  ·go_enter func156,ntmps156
   go_wp2_with fail
   have q0:∀ o,((w.drew).drew.alloc o).cell? ⟨sb,0,none⟩=some (.slice a zs.length cap):=fun o=>(World.cell?_alloc_past _ _ _ A).trans h0;have q1:∀ o,((w.drew).drew.alloc o).cell? ⟨sb,1,none⟩=some (.int .i64 n):=fun o=>(World.cell?_alloc_past _ _ _ A).trans h1
   go_region_with (go_at_call 175;refine (X.out _ HR.out N.out).mono ?_;rintro e w1 ⟨rfl,D,M⟩)
   all_goals
    have G:=D.c1;have E:=D.fz;go_wp2;go_ret;exact ⟨rfl,by rw [HM.out];exact D,fW M⟩
  ·go_enter func156,ntmps156
   go_wp2_with fail
   have q0:∀ o,((w.drew).drew.alloc o).cell? ⟨sb,0,none⟩=some (.slice a zs.length cap):=fun o=>(World.cell?_alloc_past _ _ _ A).trans h0;have q1:∀ o,((w.drew).drew.alloc o).cell? ⟨sb,1,none⟩=some (.int .i64 n):=fun o=>(World.cell?_alloc_past _ _ _ A).trans h1
   go_region_with (go_at_call 175;refine (X.out _ HR.out N.out).mono ?_;rintro e w1 ⟨rfl,D,M⟩)
   all_goals
    have G:=D.c1;have E:=D.fz;go_wp2;go_ret;exact ⟨rfl,by rw [HM.out];exact D.put _ _ (by go_num),aA (fW M) (sX _ _ _ _)⟩
theorem fE (p:Int) (w:World):Calls prog 171 #[.int .i32 p] w fun e w'=>e=.returned (.bool (aK p))/\w=w':=by
 by_cases A:48<=p
 ·by_cases y:p<=57
  ·have h:Hid (aK p=true):=by simp [Hid,aK,A,y]
   go_enter func171,ntmps171
   go_wp2;go_ret;exact ⟨by rw [h.out];rfl,rfl⟩
  ·have h:Hid (aK p=false):=by simp [Hid,aK];omega
   go_enter func171,ntmps171
   go_wp2;go_ret;exact ⟨by rw [h.out];rfl,rfl⟩
 ·have h:Hid (aK p=false):=by simp [Hid,aK];omega
  go_enter func171,ntmps171
  go_wp2;go_ret;exact ⟨by rw [h.out];rfl,rfl⟩
end Go.Proofs.YtmfehflibkokbaaGreatDoor
