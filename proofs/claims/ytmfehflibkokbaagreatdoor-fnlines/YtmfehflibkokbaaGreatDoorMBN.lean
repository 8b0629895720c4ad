import Derived.Shelf.Strings.Split
import Derived.Test.YtmfehflibkokbaaGreatDoorMBM
set_option maxHeartbeats 16000000
set_option maxRecDepth 100000
namespace Go.Proofs.YtmfehflibkokbaaGreatDoor
open Go.Proofs.Tryz
open Go.RowKit Go.Shelf
def aKS:Go.Shelf.Ren:=⟨fun | 146=>133 | 221=>153 | 268=>172 | 138=>173 | 143=>174 | 195=>183 | 197=>184 | 218=>185 | 219=>186 | 260=>187 | 217=>188 | 225=>189 | 224=>165 | 267=>190 | 266=>191 | 314=>192 | n=>n,fun | 9=>9 | 31=>134 | 3=>3 | 4=>4 | 0=>0 | 105=>216 | 21=>21 | 5=>5 | 46=>228 | 119=>241 | 139=>244 | 138=>243 | 146=>235 | 51=>234 | n=>n,fun | 1=>1 | 3=>2 | 4=>3 | n=>n⟩
theorem aKq:Go.Proofs.Lays.n146 prog aKS:={
 mixed:=by kernel_rfl
 f138:=func173.trans (congrArg some (by kernel_rfl))
 f143:=func174.trans (congrArg some (by kernel_rfl))
 f146:=func133.trans (congrArg some (by kernel_rfl))
 f195:=func183.trans (congrArg some (by kernel_rfl))
 f197:=func184.trans (congrArg some (by kernel_rfl))
 f217:=func188.trans (congrArg some (by kernel_rfl))
 f218:=func185.trans (congrArg some (by kernel_rfl))
 f219:=func186.trans (congrArg some (by kernel_rfl))
 f221:=func153.trans (congrArg some (by kernel_rfl))
 f224:=func165.trans (congrArg some (by kernel_rfl))
 f225:=func189.trans (congrArg some (by kernel_rfl))
 f260:=func187.trans (congrArg some (by kernel_rfl))
 f266:=func191.trans (congrArg some (by kernel_rfl))
 f267:=func190.trans (congrArg some (by kernel_rfl))
 f268:=func172.trans (congrArg some (by kernel_rfl))
 f314:=func192.trans (congrArg some (by kernel_rfl))
 t0:=underlying0
 a0:=Tryz.isAgg0
 z0:=Tryz.sizeOf0
 v0:=Tryz.zeroValue0
 t3:=underlying3
 a3:=Tryz.isAgg3
 z3:=Tryz.sizeOf3
 v3:=Tryz.zeroValue3
 t4:=underlying4
 a4:=Tryz.isAgg4
 z4:=Tryz.sizeOf4
 v4:=Tryz.zeroValue4
 t5:=underlying5
 a5:=Tryz.isAgg5
 z5:=Tryz.sizeOf5
 v5:=Tryz.zeroValue5
 t9:=underlying9
 a9:=Tryz.isAgg9
 z9:=Tryz.sizeOf9
 v9:=Tryz.zeroValue9
 t21:=underlying21
 a21:=Tryz.isAgg21
 z21:=Tryz.sizeOf21
 v21:=Tryz.zeroValue21
 t31:=underlying134
 a31:=Tryz.isAgg134
 z31:=Tryz.sizeOf134
 v31:=Tryz.zeroValue134
 t46:=underlying228
 a46:=Tryz.isAgg228
 z46:=Tryz.sizeOf228
 v46:=Tryz.zeroValue228
 t51:=underlying234
 a51:=Tryz.isAgg234
 z51:=Tryz.sizeOf234
 v51:=Tryz.zeroValue234
 t105:=underlying216
 a105:=Tryz.isAgg216
 z105:=Tryz.sizeOf216
 v105:=Tryz.zeroValue216
 t119:=underlying241
 a119:=Tryz.isAgg241
 z119:=Tryz.sizeOf241
 t138:=underlying243
 a138:=Tryz.isAgg243
 z138:=Tryz.sizeOf243
 v138:=Tryz.zeroValue243
 t139:=underlying244
 a139:=Tryz.isAgg244
 z139:=Tryz.sizeOf244
 v139:=Tryz.zeroValue244
 t146:=underlying235
 a146:=Tryz.isAgg235
 z146:=Tryz.sizeOf235
 v146:=Tryz.zeroValue235
 g1:=by kernel_rfl
 g3:=by kernel_rfl
 g4:=by kernel_rfl }
def aDq {α:Type} (x:α):List (List α)->List (List α)
 | []=>[]
 | l::ls=>(x::l)::ls
theorem aJB (xs:List Int):∀ (x:Int) (h:List Int),spl (x::h) xs=aDq x (spl h xs):=by
 induction xs with
 | nil=>intro x h;rfl
 | cons y ys ih=>
   intro x h;simp only [spl]
   split
   ·rfl
   ·exact ih x (h++[y])
theorem aIJ (x:Int) (xs:List Int):spl [] (x::xs)=if x=10 then []::spl [] xs else aDq x (spl [] xs):=by
 simp only [spl,List.nil_append]
 split
 ·rfl
 ·exact aJB xs x []
theorem count_nil (c:UInt8):Lib.count [] [c]=0:=by rw [Lib.count_one];rfl
theorem aDL (b c:UInt8) (l:List UInt8) (h:b≠c):Lib.index (b::l) [c]=if Lib.index l [c] == -1 then -1 else Lib.index l [c]+1:=by
 have:([c]:List UInt8).isPrefixOf (b::l)=false:=by simp [List.isPrefixOf];exact fun e=>h e.symm
 rw [Lib.index,this];rfl
theorem aDJ (c:UInt8) (l:List UInt8):Lib.index (c::l) [c]=0:=by
 have:([c]:List UInt8).isPrefixOf (c::l)=true:=by simp [List.isPrefixOf]
 rw [Lib.index,this];rfl
theorem aEp (b c:UInt8) (l:List UInt8):Lib.split (b::l) [c]=if b=c then []::Lib.split l [c] else aDq b (Lib.split l [c]):=by
 unfold Lib.split
 by_cases h:b=c
 ·subst h;rw [if_pos rfl,Lib.count_cons_eq,Nat.add_comm,Lib.splitK,aDJ];simp
 ·rw [if_neg h,Lib.count_cons_ne b c l h];cases J:Lib.count l [c] with
  | zero=>rfl
  | succ k=>
    simp only [Lib.splitK];rw [aDL b c l h]
    by_cases A:Lib.index l [c] = -1
    ·simp [A,aDq]
    ·have E:=Lib.index_ge l [c];have G:(Lib.index l [c] == -1)=false:=(by simpa using A);have y:(Lib.index l [c]+1 == -1)=false:=(by simp;omega);simp only [G,Bool.false_eq_true,if_false,y];obtain ⟨n,D⟩:∃ n:Nat,Lib.index l [c]=n:=⟨(Lib.index l [c]).toNat,by omega⟩;rw [D];rw [show ((n:Int)+1).toNat=n+1 by omega,show ((n:Int)).toNat=n by omega];simp [aDq]
def byU (zs:List Int):List UInt8:=zs.map fun n=>UInt8.ofNat n.toNat
theorem aBy:∀ (zs:List Int),Bys zs->Lib.split (byU zs) [10]=(spl [] zs).map byU
 | [],_=>by
   show Lib.split [] [10]=_
   unfold Lib.split;rw [count_nil];rfl
 | z::zs,h=>by
   have ih:=aBy zs (fun x D=>h x (by simp [D]));have E:=h z (by simp);have e:byU (z::zs)=UInt8.ofNat z.toNat::byU zs:=rfl;rw [e,aEp,ih,aIJ]
   have A:UInt8.ofNat z.toNat=10 ↔ z=10:=by
    constructor
    ·intro h;have:=congrArg UInt8.toNat h;simp at this;omega
    ·intro h;subst h;rfl
   by_cases y:z=10
   ·rw [if_pos (A.2 y),if_pos y];rfl
   ·rw [if_neg (fun e=>y (A.1 e)),if_neg y];cases spl [] zs with
    | nil=>rfl
    | cons l ls=>rfl
theorem aEn (zs:List Int):(strOfNums zs).data.toList=byU zs:=rfl
theorem yZ (zs:List Int) (h:Bys zs):Lib.splitB ⟨#[10]⟩ 0 (Lib.countB (strOfNums zs) ⟨#[10]⟩) (strOfNums zs)=(spl [] zs).map strOfNums:=by
 have D:=Lib.splitB_data ⟨#[10]⟩ 0 (Lib.countB (strOfNums zs) ⟨#[10]⟩) (strOfNums zs);have E:Lib.splitK (⟨#[10]⟩:ByteArray).data.toList 0 (Lib.countB (strOfNums zs) ⟨#[10]⟩) (strOfNums zs).data.toList=Lib.split (byU zs) [10]:=rfl;rw [E,aBy zs h] at D
 have A:∀ (a:List ByteArray) (b:List (List Int)),a.map (·.data.toList)=b.map byU->a=b.map strOfNums:=by
  intro a
  induction a with
  | nil=>intro b e;cases b with
    | nil=>rfl
    | cons x b=>simp at e
  | cons x a ih=>
    intro b e;cases b with
    | nil=>simp at e
    | cons y b=>
      simp only [List.map_cons,List.cons.injEq] at e;rw [List.map_cons,ih b e.2];congr 1;have:x.data=(strOfNums y).data:=Array.toList_inj.1 (by rw [aEn];exact e.1);cases x;cases this;rfl
 exact A _ _ D
theorem aGC (zs:List Int) (h:Bys zs) (m:Int) (w:World) (D:zs.length<4294967281) (E:w.cell? ⟨1,0,none⟩=some (.int .i64 m)) :
  Calls prog 133 #[.string (strOfNums zs),.string { data:=#[10] }] w fun e w'=>e=.returned (.slice (some ⟨w.heap.size,0,none⟩) (spl [] zs).length (spl [] zs).length)/\w.alloc (.cells (((spl [] zs).map strOfNums).map Value.string).toArray 9)=w':=by
 have A:=Any.strings_Split aKq (by kernel_rfl) (strOfNums zs) { data:=#[10] } m w (by rw [strOfNums_size];exact D) E (by decide);refine A.mono ?_;rintro e w' ⟨rfl,rfl⟩;have y:=congrArg List.length (yZ zs h);rw [Lib.splitB_all _ (by decide) 0 _ _ rfl,List.length_map] at y;refine ⟨by rw [y],?_⟩;rw [<- yZ zs h];rfl
end Go.Proofs.YtmfehflibkokbaaGreatDoor
namespace Go.Proofs.YtmfehflibkokbaaGreatDoor
open Go.Proofs.Tryz
open Go.RowKit
attribute [-go_sem] Builtin.append_
theorem tT (a b:List Int):strOfNums a++strOfNums b=strOfNums (a++b):=by
 apply ByteArray.ext;simp [strOfNums,ByteArray.data_append]
theorem uG (t:List Int) (tv:Value) (w:World) (hv:RdB w.heap.size w tv t) (U:Sl tv t.length) (Z:Bys t) (hn:t.length<=1000000) :
  Calls prog 100 #[.agg #[.bool false,tv]] w fun e w'=>∃ f y,e=.returned (.func (.func f) #[] y)/\bP w' (fun k=>w.heap.size<=k/\k<w'.heap.size) f y (aG (47::47::t))/\w.grownBy w' none:=by
 have S:∀ (x:Bool) (w:World),(Op.unary .not (.bool x)).run prog w=.ok (.bool (!x)) w:=fun _ _=>rfl;obtain ⟨a,cap,J,_,_⟩:=U;subst J;have D:=World.grownBy_alloc w (Obj.cells #[.bool false,.slice a t.length cap] 128) none;have A:=oX (hv.K D);have E:Hid (∀ W:World,_):=fun W=>cG (47::47::t) (by intro z M;simp at M;rcases M with rfl | h;omega;exact Z z h) (by simp;omega) W;have e:({ data:=#[47,47] } : ByteArray)++strOfNums t=strOfNums (47::47::t):=tT [47,47] t;rw [<- e] at E;have N:¬ 9223372036854775807<2+(strOfNums t).size:=(by rw [strOfNums_size];omega);have X:=aB D;clear hv D e
 go_enter func100,ntmps100
 go_wp2_with fail
 refine (E.out _).mono ?_;rintro e w1 ⟨f,y,rfl,O,g⟩;have Y:=aB O;have G:=aB (aA X.out g);clear E O g A;go_wp2;go_ret;exact ⟨f,y,rfl,Y.out.at (fun k h=>⟨by have:=h.1;simp at this;omega,h.2⟩) (fun _ _=>rfl),G.out⟩
theorem aB6:∀ (xs y:List Int),Bys xs->Bys y->∀ l∈spl y xs,Bys l
 | [],y,_,hc,l,hl=>by simp [spl] at hl;subst hl;exact hc
 | x::xs,y,hx,hc,l,hl=>by
   simp only [spl] at hl;have A:Bys xs:=fun z D=>hx z (by simp [D])
   split at hl
   ·rcases List.mem_cons.1 hl with rfl | h
    ·exact hc
    ·exact aB6 xs [] A (fun z D=>by simp at D) l h
   ·exact aB6 xs (y++[x]) A (fun z D=>by rcases List.mem_append.1 D with h | h;exact hc z h;simp at h;subst h;exact hx _ (by simp)) l hl
theorem aIG (xs y:List Int):∀ l∈spl y xs,l.length<=y.length+xs.length:=by
 intro l D;have h:=qH y xs
 have:∀ (A:List (List Int)),l∈A->l.length+1<=nO A:=by
  intro A
  induction A with
  | nil=>intro h;simp at h
  | cons m A ih=>
    intro h;simp only [nO];rcases List.mem_cons.1 h with rfl | h
    ·omega
    ·have:=ih h;omega
 have:=this _ D;omega
theorem aI2 (h:List (List Int)):h.length<=nO h:=by
 induction h with
 | nil=>simp
 | cons m h ih=>simp only [nO,List.length_cons];omega
theorem sY (t:List Int) (tv:Value) (m:Int) (w:World) (hv:RdB w.heap.size w tv t) (hs:Sl tv t.length) (hb:Bys t) (hn:t.length<=1000000) (hM:w.cell? ⟨1,0,none⟩=some (.int .i64 m)) :
  Calls prog 100 #[.agg #[.bool true,tv]] w fun e w'=>∃ f D,e=.returned (.func (.func f) #[] D)/\bP w' (fun k=>w.heap.size<=k/\k<w'.heap.size) f D (cV (rW (spl [] (47::42::t++[42,47]))))/\w.grownBy w' none:=by
 have l4:∀ (x:Bool) (w:World),(Op.unary .not (.bool x)).run prog w=.ok (.bool (!x)) w:=fun _ _=>rfl;obtain ⟨a,cap,j6,_,_⟩:=hs;subst j6;have gA:=World.grownBy_alloc w (Obj.cells #[.bool true,.slice a t.length cap] 128) none;have c7:=oX (hv.K gA)
 have g9:Bys (47::42::t++[42,47]):=by
  intro z hz;simp at hz;rcases hz with rfl | rfl | h | rfl | rfl
  ·omega
  ·omega
  ·exact hb z h
  ·omega
  ·omega
 have g8:=gA.cell hM (by simp);have HS:=aB (aGC (47::42::t++[42,47]) g9 m _ (by simp;omega) g8)
 have e:(({ data:=#[47,42] } : ByteArray)++strOfNums t)++{ data:=#[42,47] } = strOfNums (47::42::t++[42,47]):=by
  have e1:=tT [47,42] t;have e2:=tT ([47,42]++t) [42,47];rw [<- e1] at e2;exact e2
 rw [<- e] at HS;have l3:¬ 9223372036854775807<2+(strOfNums t).size:=(by rw [strOfNums_size];omega);have j1:¬ 9223372036854775807<2+(strOfNums t).size+2:=(by rw [strOfNums_size];omega);have HL:=aB (aB6 (47::42::t++[42,47]) [] g9 (fun z hz=>by simp at hz));have a9:=aB (aIG (47::42::t++[42,47]) []);have N:=aI2 (spl [] (47::42::t++[42,47]));rw [qH] at N;simp only [List.length_nil,List.length_append,List.length_cons] at N;have HG:=aB gA;have HM:=aB hM;clear hv gA e hM g8
 obtain ⟨A,y,c1⟩:∃ A y,spl [] (47::42::t++[42,47])=A::y:=by
  cases h:spl [] (47::42::t++[42,47]) with
  | nil=>exact absurd h (aHX _ _)
  | cons A y=>exact ⟨A,y,rfl⟩
 rw [c1] at HS HL a9 N;have b1:=aB (show cV (rW (spl [] (47::42::t++[42,47])))=cV (aG A::qM y) by rw [c1,aG6]);have h0:Bys A:=HL.out A (by simp);have f8:=a9.out A (by simp);have d1:Hid (∀ W:World,_):=fun W=>cG A h0 (by simp at f8;omega) W;have j9:Hid (∀ W:World,_):=fun W=>dW 5 W;have i7:Hid (∀ (j:Nat) (hj:j<y.length) (W:World),_):=fun j hj W=>cG y[j] (HL.out _ (by simp)) (by have:=a9.out y[j] (by simp);simp at this;omega) W;clear c1 h0 f8 HL a9
 go_enter func100,ntmps100
 go_wp2_with fail
 refine HS.out.mono ?_;rintro e w1 ⟨rfl,a8⟩;have sA:(w.alloc (Obj.cells #[.bool true,.slice a t.length cap] 128)).heap.size=w.heap.size+1:=by simp
 have b9:∀ (j:Nat) (l:List Int),(A::y)[j]?=some l->w1.cell? ⟨w.heap.size+1,j,none⟩=some (.string (strOfNums l)):=fun j l hj=>by
  rw [<- a8,<- sA];have:=World.cell?_alloc_mark (w.alloc (Obj.cells #[.bool true,.slice a t.length cap] 128)) (List.map Value.string (List.map strOfNums (A::y))).toArray 9 (0,0) j;rw [this];have e2:((A::y).map strOfNums).map Value.string=(A::y).map (fun l=>Value.string (strOfNums l)):=(by simp);rw [e2];simp only [List.getElem?_toArray,List.getElem?_map,hj,Option.map_some]
 have g1:w.grownBy w1 none:=(by rw [<- a8];exact aA HG.out gWA);have s1:w1.heap.size=w.heap.size+2:=(by rw [<- a8];simp);have f9:=aB b9;have i6:=b9 0 A rfl;have G1:=aB g1;have b6:(A::y).length=y.length+1:=rfl;rw [sA,b6];rw [b6] at N;have f5:=aB (d1.out w1);clear HS a8 b9 g1 d1 c7 sA b6
 go_wp2_with fail
 refine f5.out.mono ?_;rintro e w2 ⟨f0,Y,rfl,d8,g2⟩;have M:=aFP g2 d8;have g3:=World.grownBy_alloc w2 (Obj.cells #[.func (.func f0) #[] Y] 56) none;have d0:=aB M;have G3:=aB (aA g2 g3)
 have b3:∀ j,j<y.length->w1.cell? ⟨w.heap.size+1,1+j,none⟩=some (.string (strOfNums (y[j]?.getD []))):=fun j hj=>by
  have h1:=f9.out (1+j) (y[j]'hj) (by rw [Nat.add_comm];simp [hj]);rw [h1];simp [hj]
 clear f5 d8 M g2 g3 i6 f9
 by_cases d7:y.length=0
 ·have i3:y=[]:=List.eq_nil_of_length_eq_zero d7;subst i3;simp only [List.length_nil,Nat.zero_add];go_wp2
  go_loopw [4,29] (fun pv i U=>pv=.slice (some ⟨w2.heap.size,0,none⟩) 1 1/\i=.int .i64 0/\(w2.alloc (Obj.cells #[.func (.func f0) #[] Y] 56))=U) (fun _ _ _=>0)
  case atStart=>exact ⟨rfl,rfl,rfl⟩
  case round=>
   obtain ⟨rfl,rfl,c0⟩:=hrel;have J:Hid (PoL w1.heap.size wr (.slice (some ⟨w2.heap.size,0,none⟩) 1 1) (aG A::qM [])):=(by unfold Hid;rw [<- c0];exact d0.out);have gx:w1.grownBy wr none:=(by rw [<- c0];exact G3.out);have GX:=aB gx;clear c0 gx;have b7:=J.out.pa;obtain ⟨F,hF,G⟩:=b7;have S:=aB (rN _ _ F wr G (fun k h=>(hF k h).2) (by simp [qM]));have X:=aB hF;clear G hF
   go_wp2_with fail
   refine S.out.mono ?_;rintro e w5 ⟨f,D,rfl,a4,g5⟩;have c4:=aB a4;have Z:=aB (aA (aA G1.out GX.out) g5);have j7:=g5.size;have j5:=G1.out.size;clear S a4 g5;go_wp2;go_ret;refine ⟨f,D,rfl,?_,Z.out⟩;have E:=c4.out;rw [<- b1.out] at E;exact E.at (fun k h=>h.elim (fun h=>⟨by have:=(X.out k h).1;omega,by have:=(X.out k h).2;omega⟩) (fun h=>⟨by have:=h.1;have:=GX.out.size;omega,h.2⟩)) (fun _ _=>rfl)
 ·have k6:((y.length:Int)+1==1)=false:=by
   rw [beq_eq_false_iff_ne];omega
  have j0:(y.length+1==1)=false:=(by simpa using d7);have l1:y.length<=1000010:=(by omega);have k5:=aB b3;clear b3;go_wp2
  go_loopw [4,29] (fun pv i U=>∃ (j:Nat),j<=y.length/\i=.int .i64 j/\PoL w1.heap.size U pv (aG A::qM (y.take j))/\w1.grownBy U none)
   (fun _ i _=>y.length - (intOf i).toNat)
  case atStart=>exact ⟨0,Nat.zero_le _,rfl,d0.out,G3.out⟩
  case round=>
   obtain ⟨j,hj,rfl,M,gU⟩:=hrel;have gx:=gU;have m4:=gx.size
   have i8:(aG A::qM (y.take j)).length<=2000030:=by
    have h:∀ (l:List (List Int)),(qM l).length=2*l.length:=by
     intro l
     induction l with
     | nil=>rfl
     | cons x l ih=>rw [show qM (x::l)=[aH 5,aG x]++qM l by simp [qM],List.length_append,ih];simp;omega
    rw [List.length_cons,h,List.length_take];omega
   obtain ⟨pa,pc,b8⟩:=M.sl;have J:=aB M
   by_cases b0:j<y.length
   ·have f7:=gU.cell (k5.out j b0) (by simp);have d3:y[j]?.getD []=y[j]:=(by simp [b0]);rw [d3] at f7;have c9:=aB (i7.out j b0)
    have j8:=aB (show qM (y.take (j+1))=qM (y.take j)++[aH 5,aG y[j]] by
     rw [show y.take (j+1)=y.take j++[y[j]] by rw [List.take_add_one];simp [b0]];simp only [qM,List.flatMap_append,List.flatMap_cons,List.flatMap_nil,List.append_nil])
    have d4:=aB (j9.out wr);have GX:=aB gx;have k0:=aB gU;generalize d6:(aG A::qM (y.take j)).length=PL at *;subst b8;clear M gU gx d3;generalize y[j]=lj at *
    go_wp2_with fail
    refine d4.out.mono ?_;rintro e w3 ⟨f3,c3,rfl,d5,g3⟩;have g0:=aB d5;have f6:=aB g3;clear d4 d5 g3
    go_wp2_with fail
    refine (c9.out w3).mono ?_;rintro e w4 ⟨f4,c6,rfl,h5,g4⟩;have h3:=g0.out.more (Nat.le_refl _) g4;have h4:=h5.more f6.out.size (World.grownBy.refl _ _);have O:=aA f6.out g4;have d2:=aEL O h3 h4;have gA:=World.grownBy_alloc w4 (Obj.cells #[.func (.func f3) #[] c3,.func (.func f4) #[] c6] 56) none;have m1:=O.size;obtain ⟨v5,w5,l6,o5,g5⟩:=cD w1.heap.size _ _ _ _ _ _ ((J.out.K O).K gA) d2 (fun k hk=>⟨by have:=hk.1;omega,hk.2,fun e=>by have h1:=hk.1;have h2:=(J.out.lt k e).2;omega⟩) (by simp;omega) (by rw [d6];simp;omega);obtain ⟨a5,c5,g6⟩:=o5.sl;have i4:(aG A::qM (y.take j)++[aH 5,aG lj]).length=PL+2:=(by rw [List.length_append,d6];rfl);rw [i4] at g6;have k3:Hid (PoL w1.heap.size w5 v5 (aG A::qM (y.take (j+1)))):=(by unfold Hid;rw [j8.out];exact o5);have Z:=aB (bA (aA k0.out (aA O gA)) g5 (fun x e=>(J.out.lt x e).1));subst g6;clear o5 g5 d2 gA O h3 h4 g0 h5 g4 c9 f7;go_wp2
    go_roundw
    case rel=>exact ⟨j+1,by omega,by go_num,k3.out,Z.out⟩
    case measure=>simp [intOf];omega
   ·have j2:j=y.length:=(by omega);subst j2;rw [List.take_length] at J b8 i8;have GX:=aB gx;subst b8;clear M gU gx;have b7:=J.out.pa;obtain ⟨F,hF,G⟩:=b7;have S:=aB (rN _ _ F wr G (fun k h=>(hF k h).2) (by omega));have X:=aB hF;clear G hF
    go_wp2_with fail
    refine S.out.mono ?_;rintro e w5 ⟨f,D,rfl,a4,g5⟩;have c4:=aB a4;have Z:=aB (aA (aA G1.out GX.out) g5);have j7:=g5.size;have j5:=G1.out.size;clear S a4 g5;go_wp2;go_ret;refine ⟨f,D,rfl,?_,Z.out⟩;have E:=c4.out;rw [<- b1.out] at E;exact E.at (fun k h=>h.elim (fun h=>⟨by have:=(X.out k h).1;omega,by have:=(X.out k h).2;omega⟩) (fun h=>⟨by have:=h.1;have:=GX.out.size;omega,h.2⟩)) (fun _ _=>rfl)
theorem oB (c:Cm) (tv:Value) (m:Int) (w:World) (hv:RdB w.heap.size w tv c.t) (y:Sl tv c.t.length) (D:Bys c.t) (A:c.t.length<=1000000) (E:w.cell? ⟨1,0,none⟩=some (.int .i64 m)) :
  Calls prog 100 #[.agg #[.bool c.b,tv]] w fun e w'=>∃ f h,e=.returned (.func (.func f) #[] h)/\bP w' (fun k=>w.heap.size<=k/\k<w'.heap.size) f h (jJ c)/\w.grownBy w' none:=by
 obtain ⟨b,t⟩:=c;cases b with
 | false=>exact uG t tv w hv y D A
 | true=>exact sY t tv m w hv y D A E
theorem mP (cv:Value) (h:List Cm) (m:Int) (w:World) (hc:RdC w.heap.size w cv h) (ho:xC h) (hn:wC h<=4000000) (hM:w.cell? ⟨1,0,none⟩=some (.int .i64 m)) :
  Calls prog 58 #[cv] w fun e w'=>∃ v',e=.returned v'/\PoL w.heap.size w' v' (bM h)/\w.grownBy w' none:=by
 have b1:=aB hc;have f8:=aCE h;obtain ⟨a,cap,b2,_,_,_⟩:=id hc;have HM:=aB hM;subst b2;clear hc hM
 go_enter func58,ntmps58
 go_wp2
 go_loopw [3,8] (fun pv i U=>∃ (j:Nat),j<=h.length/\i=.int .i64 j/\PoL w.heap.size U pv (bM (h.take j))/\w.grownBy U none)
  (fun _ i _=>h.length - (intOf i).toNat)
 case atStart=>exact ⟨0,Nat.zero_le _,rfl,PoL.nil _ _,World.grownBy.refl _ _⟩
 case round=>
  obtain ⟨j,hj,rfl,E,N⟩:=hrel;have b5:=N.size;have f9:(bM (h.take j)).length<=4000000:=(by have h1:=cN (bM (h.take j));have h2:=rK h j;omega);obtain ⟨pa,pc,J⟩:=E.sl;have y:=aB E;have a7:=aB N
  by_cases D:j<h.length
  ·obtain ⟨b,off,d1,tv,b4,i0,c0,c1,X,Z⟩:=(b1.out.K N).at j D;cases b4;have hm:=aCl h h[j] (List.getElem_mem D);have a6:=(ho _ (List.getElem_mem D)).2;have HC:Hid (∀ W:World,wr.grownBy W none->_):=fun W (g:wr.grownBy W none)=>oB h[j] tv m W ((X.K g).wideC (Nat.le_trans b5 g.size)) Z a6 (by omega) ((aA N g).cell HM.out (by simp));have HL:Hid (∀ W:World,_):=fun W=>dW 4 W;have HE:=aB (show bM (h.take (j+1))=bM (h.take j)++[jJ h[j],aH 4] by rw [show h.take (j+1)=h.take j++[h[j]] by rw [List.take_add_one];simp [D],aBz]);obtain ⟨ta,tc,c7,_,_⟩:=Z;generalize O:(bM (h.take j)).length=PL at *;subst J c7;clear E N X a6;generalize h[j]=c at *;have gB:wr.grownBy (wr.alloc (Obj.cells #[.bool c.b,.slice ta c.t.length tc] 128)) none:=gWA;have GB:=aB gB
   go_wp2_with fail
   refine (HC.out _ gB).mono ?_;rintro e w3 ⟨f3,M,rfl,b0,g3⟩;have a8:=aB b0;have a4:=aB (aA gB g3);clear b0 g3
   go_wp2_with fail
   refine (HL.out w3).mono ?_;rintro e w4 ⟨f4,G,rfl,a9,g4⟩;have h3:=a8.out.more (B:=wr.heap.size) GB.out.size g4;have h4:=a9.more (B:=wr.heap.size) a4.out.size (World.grownBy.refl _ _);have A:=aA a4.out g4;have Y:=aEL A h3 h4;have gA:=World.grownBy_alloc w4 (Obj.cells #[.func (.func f3) #[] M,.func (.func f4) #[] G] 56) none;have h6:=A.size;obtain ⟨v5,w5,d4,o5,g5⟩:=cD w.heap.size _ _ _ _ _ _ ((y.out.K A).K gA) Y (fun k hk=>⟨by have:=hk.1;omega,hk.2,fun e=>by have h1:=hk.1;have h2:=(y.out.lt k e).2;omega⟩) (by simp;omega) (by rw [O];simp;omega);obtain ⟨a5,c5,S⟩:=o5.sl;have b6:(bM (h.take j)++[jJ c,aH 4]).length=PL+2:=(by rw [List.length_append,O];rfl);rw [b6] at S;have c4:Hid (PoL w.heap.size w5 v5 (bM (h.take (j+1)))):=(by unfold Hid;rw [HE.out];exact o5);have c8:=aB (bA (aA a7.out (aA A gA)) g5 (fun x e=>(y.out.lt x e).1));subst S;clear o5 g5 Y gA A h3 h4 a8 a9 g4 HC HL c0 c1;go_wp2
   go_roundw
   case rel=>exact ⟨j+1,by omega,by go_num,c4.out,c8.out⟩
   case measure=>simp [intOf];omega
  ·have c6:j=h.length:=(by omega);subst c6;rw [List.take_length] at y J;subst J;clear E N;generalize (bM h).length=LL at *;go_wp2;go_ret;exact ⟨_,rfl,y.out,a7.out⟩
theorem qJ (cv:Value) (y:List Cm) (m:Int) (w:World) (hc:RdC w.heap.size w cv y) (ho:xC y) (hn:wC y<=4000000) (hM:w.cell? ⟨1,0,none⟩=some (.int .i64 m)) :
  Calls prog 129 #[cv] w fun e w'=>∃ v',e=.returned v'/\PoL w.heap.size w' v' (cU y)/\w.grownBy w' none:=by
 have d4:=aB hc;have j4:=aCE y;obtain ⟨a,cap,d6,_,_,_⟩:=id hc;have HM:=aB hM;subst d6;clear hc hM
 go_enter func129,ntmps129
 go_wp2
 go_loopw [3,8] (fun pv i U=>∃ (j:Nat),j<=y.length/\i=.int .i64 j/\PoL w.heap.size U pv (cU (y.take j))/\w.grownBy U none)
  (fun _ i _=>y.length - (intOf i).toNat)
 case atStart=>exact ⟨0,Nat.zero_le _,rfl,PoL.nil _ _,World.grownBy.refl _ _⟩
 case round=>
  obtain ⟨j,hj,rfl,N,Y⟩:=hrel;have c9:=Y.size;have j0:(cU (y.take j)).length<=4000000:=(by have h1:=cN (cU (y.take j));have h2:=rK y j;omega);obtain ⟨pa,pc,O⟩:=N.sl;have A:=aB N;have b2:=aB Y
  by_cases M:j<y.length
  ·obtain ⟨b,off,h8,tv,f6,j2,c0,c1,b7,a9⟩:=(d4.out.K Y).at j M;cases f6;have hm:=aCl y y[j] (List.getElem_mem M);have b5:=(ho _ (List.getElem_mem M)).2;have HC:Hid (∀ W:World,wr.grownBy W none->_):=fun W (g:wr.grownBy W none)=>oB y[j] tv m W ((b7.K g).wideC (Nat.le_trans c9 g.size)) a9 b5 (by omega) ((aA Y g).cell HM.out (by simp));have HL:Hid (∀ W:World,_):=fun W=>dW 4 W;have HE:=aB (show cU (y.take (j+1))=cU (y.take j)++[aH 4,jJ y[j]] by rw [show y.take (j+1)=y.take j++[y[j]] by rw [List.take_add_one];simp [M],aA5]);obtain ⟨ta,tc,d7,_,_⟩:=a9;generalize a8:(cU (y.take j)).length=PL at *;subst O d7;clear N Y b7 b5;generalize y[j]=c at *;have gB:wr.grownBy (wr.alloc (Obj.cells #[.bool c.b,.slice ta c.t.length tc] 128)).drew none:=aA gWA ⟨rfl,rfl,rfl,Nat.le_refl _,fun _ _ _=>rfl⟩;have GB:=aB gB;obtain ⟨I,hI⟩:∃ I:World->Prop,I=(fun W:World=>W.cell? ⟨wr.heap.size,0,none⟩=some (.bool c.b)/\W.cell? ⟨wr.heap.size,1,none⟩=some (.slice ta c.t.length tc)):=⟨_,rfl⟩;have S:I (wr.alloc (Obj.cells #[.bool c.b,.slice ta c.t.length tc] 128)).drew:=(by rw [hI];exact ⟨by simp [go_sem],by simp [go_sem]⟩);have E:∀ (U U':World) (r:Option Nat),I U->U.grownBy U' r->some wr.heap.size≠r->I U':=fun U U' r h g hr=>by rw [hI] at h ⊢;exact ⟨g.cell h.1 hr,g.cell h.2 hr⟩
   go_wp2;refine aZ I (fun _=>false) (by kernel_rfl) ?_
   show fJ _ _ _ _ _ _ 7 (Array.replicate 7 false) _ _
   refine bK (i:=0) (.slice pa PL pc) rfl S (bB rfl (fun W hW=>by go_simp)) ?_;refine bK (i:=2) (.agg #[.bool c.b,.slice ta c.t.length tc]) rfl S (bB rfl (fun W hW=>by rw [hI] at hW;obtain ⟨h1,h2⟩:=hW;go_simp)) ?_;generalize hG:Act.put _ _ _=A0;simp [Act.put] at hG;subst hG;refine aD (i:=1) (by kernel_rfl) (dY rfl rfl (by go_simp) (HL.out (wr.alloc (Obj.cells #[.bool c.b,.slice ta c.t.length tc] 128)).drew) ?_);rintro e w3 ⟨f3,G,rfl,a7,g3⟩;have b0:=E _ _ none S g3 (by simp);have b3:=aB a7;have X:=aB (aA gB g3);refine ⟨_,rfl,.inr b0,?_⟩;clear a7 g3;refine aD (i:=3) (by kernel_rfl) (dY rfl rfl (by go_simp) (HC.out w3 X.out) ?_);rintro e w4 ⟨f4,J,rfl,b9,g4⟩;have a4:=E _ _ none b0 g4 (by simp);refine ⟨_,rfl,.inr a4,?_⟩;have h3:=b3.out.more (B:=wr.heap.size) GB.out.size g4;have h4:=b9.more (B:=wr.heap.size) X.out.size (World.grownBy.refl _ _);have D:=aA X.out g4;have Z:=aEL D h3 h4;have gA:=World.grownBy_alloc w4 (Obj.cells #[.func (.func f3) #[] G,.func (.func f4) #[] J] 56) none;have i7:=D.size;obtain ⟨v5,w5,h0,o5,g5⟩:=cD w.heap.size _ _ _ _ _ _ ((A.out.K D).K gA) Z (fun k hk=>⟨by have:=hk.1;omega,hk.2,fun e=>by have h1:=hk.1;have h2:=(A.out.lt k e).2;omega⟩) (by simp;omega) (by rw [a8];simp;omega);obtain ⟨a5,c5,b4⟩:=o5.sl;have c6:(cU (y.take j)++[aH 4,jJ c]).length=PL+2:=(by rw [List.length_append,a8];rfl);rw [c6] at b4;have f8:Hid (PoL w.heap.size w5 v5 (cU (y.take (j+1)))):=(by unfold Hid;rw [HE.out];exact o5);have d8:=aB (bA (aA b2.out (aA D gA)) g5 (fun x e=>(A.out.lt x e).1));have b6:=E _ _ none a4 gA (by simp);have a6:=E _ _ _ b6 g5 (fun e=>by have:=(A.out.lt _ e.symm).2;omega);subst b4;clear o5 g5 Z gA D h3 h4 b3 b9 g4 HC HL c0 c1 E;refine aD (i:=4) (by kernel_rfl) (aF (w':=w4.alloc (Obj.cells #[.func (.func f3) #[] G,.func (.func f4) #[] J] 56)) (v:=.slice (some ⟨w4.heap.size,0,none⟩) 2 2) rfl rfl (by go_simp) ⟨.inr b6,?_⟩);refine aD (i:=5) (by kernel_rfl) (aF (w':=w5) (v:=.slice a5 (PL+2) c5) rfl rfl (by go_simp) ⟨.inr a6,?_⟩);refine aD (i:=6) (by kernel_rfl) (aF (w':=w5) (v:=.slice a5 (PL+2) c5) rfl rfl (by go_simp) ⟨.inr a6,?_⟩);refine bL (by kernel_rfl) ?_ _;subst hI;go_wp2
   go_roundw
   case rel=>exact ⟨j+1,by omega,by go_num,f8.out,d8.out⟩
   case measure=>simp [intOf];omega
  ·have d3:j=y.length:=(by omega);subst d3;rw [List.take_length] at A O;subst O;clear N Y;generalize (cU y).length=LL at *;go_wp2;go_ret;exact ⟨_,rfl,A.out,b2.out⟩
end Go.Proofs.YtmfehflibkokbaaGreatDoor
namespace Go.Proofs.YtmfehflibkokbaaGreatDoor
open Go.Proofs.Tryz
open Go.RowKit
theorem lI (p:Int) (w:World):Calls prog 152 #[.int .i32 p] w fun e w'=>e=.returned (.bool (gM p))/\w=w':=by
 by_cases h:gM p=true
 ·have y:Hid (gM p=true):=h;have A:(97<=p/\p<=122)\/(65<=p/\p<=90)\/p=95\/p=36:=(by simpa [gM] using h);clear h;rcases A with ⟨E,G⟩ | ⟨E,G⟩ | rfl | rfl
  ·have D:¬ p<=90:=(by omega);have M:65<=p:=by omega
   go_enter func152,ntmps152
   go_wp2;go_ret;exact ⟨by rw [y.out];rfl,rfl⟩
  ·have D:¬ 97<=p:=by omega
   go_enter func152,ntmps152
   go_wp2;go_ret;exact ⟨by rw [y.out];rfl,rfl⟩
  all_goals
   go_enter func152,ntmps152
   go_wp2;go_ret;exact ⟨rfl,rfl⟩
 ·have y:Hid (gM p=false):=(by simpa [Hid] using h);have A:¬ ((97<=p/\p<=122)\/(65<=p/\p<=90)\/p=95\/p=36):=(by simpa [gM] using h);clear h;have J:(p==95)=false:=(by simp;omega);have N:(p==36)=false:=by simp;omega
  by_cases E:65<=p
  ·have G:¬ p<=90:=by omega
   by_cases D:97<=p
   ·have M:¬ p<=122:=(by omega);clear A
    go_enter func152,ntmps152
    go_wp2;go_ret;exact ⟨by rw [y.out];rfl,rfl⟩
   ·clear A
    go_enter func152,ntmps152
    go_wp2;go_ret;exact ⟨by rw [y.out];rfl,rfl⟩
  ·have D:¬ 97<=p:=(by omega);clear A
   go_enter func152,ntmps152
   go_wp2;go_ret;exact ⟨by rw [y.out];rfl,rfl⟩
theorem gP (p:Int) (w:World):Calls prog 151 #[.int .i32 p] w fun e w'=>e=.returned (.bool (gM p||aK p))/\w=w':=by
 cases h:gM p
 all_goals
  go_enter func151,ntmps151
  go_wp2_with (first
   | (go_at_call 152;refine (lI _ _).mono ?_;rintro e w' ⟨rfl,rfl⟩;rw [h])
   | (go_at_call 171;refine (fE _ _).mono ?_;rintro e w' ⟨rfl,rfl⟩))
  go_ret;exact ⟨by simp,rfl⟩
theorem zR (v:Value) (zs:List Int) (w:World) (hv:RdI w.heap.size w v zs) (hn:zs.length<=2097152) :
  Calls prog 131 #[v] w fun e w'=>e=.returned (.bool (nmR zs))/\w=w':=by
 obtain ⟨a,cap,rfl,hr⟩:=hv;have a5:∀ (x:Bool) (w:World),(Op.unary .not (.bool x)).run prog w=.ok (.bool (!x)) w:=fun _ _=>rfl
 go_enter func131,ntmps131
 go_wp2
 go_loopw [7] (fun i wr=>∃ k:Nat,k<=zs.length/\i=.int .i64 k/\sS zs k=true/\w=wr)
  (fun i _=>zs.length - (intOf i).toNat)
 case atStart=>exact ⟨0,Nat.zero_le _,rfl,rfl,rfl⟩
 case round=>
  obtain ⟨k,hk,rfl,E,rfl⟩:=hrel
  by_cases M:k<zs.length
  ·obtain ⟨b,off,rfl,hb,hc⟩:=hr (fun h=>by simp [h] at M);have Z:=hc k M;have D:=aB (aBr zs k E);have y:=aB (aFS zs k M);generalize zs[k]?.getD 0=p at Z D y;clear hc hr;cases J:bZ p
   ·have N:Hid (nmR zs=false):=y.out (by simp [bZ] at J;simp [uC,gM,aK];omega);clear D y
    go_wp2_with (first
     | (go_at_call 143;refine (eT _ _).mono ?_;rintro e w' ⟨rfl,rfl⟩;rw [J]))
    go_ret;exact ⟨by rw [N.out];rfl,rfl⟩
   ·have Y:0<=p/\p<65536:=(by simpa [bZ] using J);have a9:IntKind.i32.wrap p=p:=(by rw [IntKind.wrap];simp [IntKind.bits,IntKind.signed];omega);obtain ⟨a8,b0⟩:=Y;cases G:gM p
    ·cases S:aK p
     ·have N:Hid (nmR zs=false):=y.out (by simp [uC,G,S]);clear D y
      go_wp2_with (first
       | (go_at_call 143;refine (eT _ _).mono ?_;rintro e w' ⟨rfl,rfl⟩;rw [J])
       | (go_at_call 151;refine (gP _ _).mono ?_;rintro e w' ⟨rfl,rfl⟩;rw [G,S]))
      go_ret;exact ⟨by rw [N.out];rfl,rfl⟩
     ·by_cases A:k=0
      ·have O:((k:Int)==0)=true:=(by simp [A]);have N:Hid (nmR zs=false):=y.out (by simp [uC,G,A]);have HK:=aB A;clear D y A
       go_wp2_with (first
        | (go_at_call 143;refine (eT _ _).mono ?_;rintro e w' ⟨rfl,rfl⟩;rw [J])
        | (go_at_call 151;refine (gP _ _).mono ?_;rintro e w' ⟨rfl,rfl⟩;rw [G,S])
        | (go_at_call 152;refine (lI _ _).mono ?_;rintro e w' ⟨rfl,rfl⟩;rw [G]))
       go_ret;exact ⟨by rw [N.out];rfl,rfl⟩
      ·have O:((k:Int)==0)=false:=(by simp;omega);have X:Hid (sS zs (k+1)=true):=D.out (by simp [uC,G,S,A]);clear D y
       go_wp2_with (first
        | (go_at_call 143;refine (eT _ _).mono ?_;rintro e w' ⟨rfl,rfl⟩;rw [J])
        | (go_at_call 151;refine (gP _ _).mono ?_;rintro e w' ⟨rfl,rfl⟩;rw [G,S]))
       go_roundw
       case rel=>exact ⟨k+1,by omega,by go_num,X.out,trivial⟩
       case measure=>simp [intOf];omega
    ·have X:Hid (sS zs (k+1)=true):=D.out (by simp [uC,G]);clear D y
     by_cases A:k=0
     ·have O:((k:Int)==0)=true:=(by simp [A]);have HK:=aB A;clear A
      go_wp2_with (first
       | (go_at_call 143;refine (eT _ _).mono ?_;rintro e w' ⟨rfl,rfl⟩;rw [J])
       | (go_at_call 151;refine (gP _ _).mono ?_;rintro e w' ⟨rfl,rfl⟩;rw [G])
       | (go_at_call 152;refine (lI _ _).mono ?_;rintro e w' ⟨rfl,rfl⟩;rw [G]))
      go_roundw
      case rel=>exact ⟨k+1,by omega,by go_num,X.out,trivial⟩
      case measure=>simp [intOf];omega
     ·have O:((k:Int)==0)=false:=by simp;omega
      go_wp2_with (first
       | (go_at_call 143;refine (eT _ _).mono ?_;rintro e w' ⟨rfl,rfl⟩;rw [J])
       | (go_at_call 151;refine (gP _ _).mono ?_;rintro e w' ⟨rfl,rfl⟩;rw [G]))
      go_roundw
      case rel=>exact ⟨k+1,by omega,by go_num,X.out,trivial⟩
      case measure=>simp [intOf];omega
  ·have U:k=zs.length:=(by omega);rw [U] at E;have N:Hid (nmR zs=decide (0<zs.length)):=aE4 zs E;have HG:Hid (decide ((0:Int)<(zs.length:Int))=decide (0<zs.length)):=(by simp [Hid]);clear hr E U;go_wp2;go_ret;exact ⟨by rw [N.out,<- HG.out];rfl,rfl⟩
theorem aHs (p:Int) (A:0<=p) (y:p<=1114111):Bys (enc p):=by
 intro z h;unfold enc at h
 repeat' split at h
 all_goals simp at h
 all_goals omega
theorem aCw (n:Int) (y:0<=n) (h:n<16):0<=mR n/\mR n<=255:=by unfold mR;split<;>omega
theorem aGS (p:Int) (A:0<=p) (y:p<=1114111):Bys (fF p):=by
 unfold fF
 split
 ·intro z h;unfold pR at h
  repeat' split at h
  all_goals simp at h
  all_goals omega
 ·split
  ·intro z h;have a:=aCw (p / 4096%16) (by omega) (by omega);have b:=aCw (p / 256%16) (by omega) (by omega);have c:=aCw (p / 16%16) (by omega) (by omega);have d:=aCw (p%16) (by omega) (by omega);simp [dH] at h;omega
  ·exact aHs p A y
theorem aFX (A:List Int):Bys (quR A).1:=by
 unfold quR
 split
 ·rename_i h
  intro z y;simp only [List.cons_append,List.mem_cons,List.mem_append,List.not_mem_nil,or_false] at y;rcases y with rfl | y | rfl
  ·omega
  ·unfold jC at y;obtain ⟨p,E,y⟩:=List.mem_flatMap.1 y;have D:=aH3 A h p E;exact aGS p D.1 D.2 z y
  ·omega
 ·intro z y;simp at y
theorem aHA (y:List Int):Bys (fS y):=by
 unfold fS
 split
 ·rename_i h
  intro z A;have:=(zC z (aAk y h z A)).2;omega
 ·exact aFX y
theorem pY (v:Value) (h:List Int) (w:World) (S:Tab w) (hv:RdI w.heap.size w v h) (U:h.length<=1048576) :
  Calls prog 94 #[v] w fun e w'=>e=.returned (.string (strOfNums (quR h).1))/\w.grownBy w' none:=by
 have N:=aB (aAz v h w S hv U);obtain ⟨a,cap,E,_⟩:=id hv;subst E;clear hv
 go_enter func94,ntmps94
 go_wp2_with fail
 refine N.out.mono ?_;rintro e X ⟨Z,rfl,D,O⟩;have y:=oX D.rd;obtain ⟨a1,Y,A,_,_⟩:=D.sl;have G:=aB O;generalize M:(quR h).1=qs at *;have J:=aB M;subst A;clear N D O M;go_wp2;go_ret;exact ⟨by rw [J.out];rfl,G.out⟩
theorem aHw (h:List Int):(strOfNums (34::h++[34])).extract 1 (h.length+1)=strOfNums h:=by
 apply ByteArray.ext;apply Array.toList_inj.1;rw [Lib.extract_data,strOfNums_data,strOfNums_data];simp
theorem aC4 (v:Value) (h:List Int) (w:World) (N:Tab w) (hv:RdI w.heap.size w v h) (O:h.length<=1048576) :
  Calls prog 96 #[v] w fun e w'=>e=.returned (.string (strOfNums (fS h)))/\w.grownBy w' none:=by
 have J:=aB (pY v h w N hv O);have M:Hid (∀ W:World,w.grownBy W none->_):=fun W (g:w.grownBy W none)=>zR v h W ((hv.K g).wideC g.size) (by omega);obtain ⟨a,cap,D,_⟩:=id hv;subst D;clear hv
 go_enter func96,ntmps96
 go_wp2_with fail
 refine J.out.mono ?_;rintro e U ⟨rfl,A⟩;have y:=aB (M.out U A);have G:=aB A;clear J M A
 go_wp2_with fail
 refine y.out.mono ?_;rintro e Y ⟨rfl,rfl⟩;clear y;cases E:nmR h with
 | false=>
   have HK:=aB (show fS h=(quR h).1 by unfold fS;rw [E];rfl);go_wp2;go_ret;exact ⟨by rw [HK.out];rfl,G.out⟩
 | true=>
   have HK:=aB (show fS h=h by unfold fS;rw [E];rfl);have S:=aHw h;rw [aJ7 h E];have X:(strOfNums (34::h++[34])).size=h.length+2:=(by rw [strOfNums_size];simp);simp only;generalize strOfNums (34::h++[34])=qs at *;go_wp2;go_ret;refine ⟨?_,G.out⟩;rw [HK.out,<- S];rfl
end Go.Proofs.YtmfehflibkokbaaGreatDoor
