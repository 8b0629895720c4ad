import Derived.Shelf.Strings.Split
import Derived.Test.YtgifkcpdihphlaaGreatDoorMBQ
set_option maxHeartbeats 16000000
set_option maxRecDepth 100000
namespace Go.Proofs.YtgifkcpdihphlaaGreatDoor
open Tryz
open Go.RowKit Go.Shelf
def aMl:Go.Shelf.Ren:=⟨fun | 146=>148 | 221=>163 | 268=>181 | 138=>182 | 143=>183 | 195=>192 | 197=>193 | 218=>194 | 219=>195 | 260=>196 | 217=>197 | 225=>198 | 224=>174 | 267=>199 | 266=>200 | 314=>201 | n=>n,fun | 9=>9 | 31=>118 | 3=>3 | 4=>4 | 0=>0 | 105=>225 | 21=>21 | 5=>5 | 46=>237 | 119=>250 | 139=>253 | 138=>252 | 146=>244 | 51=>243 | n=>n,fun | 1=>1 | 3=>2 | 4=>3 | n=>n⟩
theorem aKA:Go.Proofs.Lays.n146 prog aMl:={
 mixed:=by kernel_rfl
 f138:=func182.trans (congrArg some (by kernel_rfl))
 f143:=func183.trans (congrArg some (by kernel_rfl))
 f146:=func148.trans (congrArg some (by kernel_rfl))
 f195:=func192.trans (congrArg some (by kernel_rfl))
 f197:=func193.trans (congrArg some (by kernel_rfl))
 f217:=func197.trans (congrArg some (by kernel_rfl))
 f218:=func194.trans (congrArg some (by kernel_rfl))
 f219:=func195.trans (congrArg some (by kernel_rfl))
 f221:=func163.trans (congrArg some (by kernel_rfl))
 f224:=func174.trans (congrArg some (by kernel_rfl))
 f225:=func198.trans (congrArg some (by kernel_rfl))
 f260:=func196.trans (congrArg some (by kernel_rfl))
 f266:=func200.trans (congrArg some (by kernel_rfl))
 f267:=func199.trans (congrArg some (by kernel_rfl))
 f268:=func181.trans (congrArg some (by kernel_rfl))
 f314:=func201.trans (congrArg some (by kernel_rfl))
 t0:=underlying0
 a0:=Tryz.isAgg0
 z0:=Tryz.sizeOf0
 v0:=Tryz.zeroValue0
 t3:=underlying3
 a3:=Tryz.isAgg3
 z3:=Tryz.sizeOf3
 v3:=Tryz.zeroValue3
 t4:=underlying4
 a4:=Tryz.isAgg4
 z4:=Tryz.sizeOf4
 v4:=Tryz.zeroValue4
 t5:=underlying5
 a5:=Tryz.isAgg5
 z5:=Tryz.sizeOf5
 v5:=Tryz.zeroValue5
 t9:=underlying9
 a9:=Tryz.isAgg9
 z9:=Tryz.sizeOf9
 v9:=Tryz.zeroValue9
 t21:=underlying21
 a21:=Tryz.isAgg21
 z21:=Tryz.sizeOf21
 v21:=Tryz.zeroValue21
 t31:=underlying118
 a31:=Tryz.isAgg118
 z31:=Tryz.sizeOf118
 v31:=Tryz.zeroValue118
 t46:=underlying237
 a46:=Tryz.isAgg237
 z46:=Tryz.sizeOf237
 v46:=Tryz.zeroValue237
 t51:=underlying243
 a51:=Tryz.isAgg243
 z51:=Tryz.sizeOf243
 v51:=Tryz.zeroValue243
 t105:=underlying225
 a105:=Tryz.isAgg225
 z105:=Tryz.sizeOf225
 v105:=Tryz.zeroValue225
 t119:=underlying250
 a119:=Tryz.isAgg250
 z119:=Tryz.sizeOf250
 t138:=underlying252
 a138:=Tryz.isAgg252
 z138:=Tryz.sizeOf252
 v138:=Tryz.zeroValue252
 t139:=underlying253
 a139:=Tryz.isAgg253
 z139:=Tryz.sizeOf253
 v139:=Tryz.zeroValue253
 t146:=underlying244
 a146:=Tryz.isAgg244
 z146:=Tryz.sizeOf244
 v146:=Tryz.zeroValue244
 g1:=by kernel_rfl
 g3:=by kernel_rfl
 g4:=by kernel_rfl }
def aDQ {α:Type} (x:α):List (List α)->List (List α)
 | []=>[]
 | l::ls=>(x::l)::ls
theorem aKV (xs:List Int):∀ (x:Int) (h:List Int),spl (x::h) xs=aDQ x (spl h xs):=by
 induction xs with
 | nil=>intro x h;rfl
 | cons y ys ih=>
   intro x h;simp only [spl]
   split
   ·rfl
   ·exact ih x (h++[y])
theorem aIO (x:Int) (xs:List Int):spl [] (x::xs)=if x=10 then []::spl [] xs else aDQ x (spl [] xs):=by
 simp only [spl,List.nil_append]
 split
 ·rfl
 ·exact aKV xs x []
theorem aHy (c:UInt8):Lib.count [] [c]=0:=by rw [Lib.count_one];rfl
theorem aDY (b c:UInt8) (l:List UInt8) (h:b≠c):Lib.index (b::l) [c]=if Lib.index l [c] == -1 then -1 else Lib.index l [c]+1:=by
 have:([c]:List UInt8).isPrefixOf (b::l)=false:=by simp [List.isPrefixOf];exact fun e=>h e.symm
 rw [Lib.index,this];rfl
theorem aDG (c:UInt8) (l:List UInt8):Lib.index (c::l) [c]=0:=by
 have:([c]:List UInt8).isPrefixOf (c::l)=true:=by simp [List.isPrefixOf]
 rw [Lib.index,this];rfl
theorem aE7 (b c:UInt8) (l:List UInt8):Lib.split (b::l) [c]=if b=c then []::Lib.split l [c] else aDQ b (Lib.split l [c]):=by
 unfold Lib.split
 by_cases h:b=c
 ·subst h;rw [if_pos rfl,Lib.count_cons_eq,Nat.add_comm,Lib.splitK,aDG];simp
 ·rw [if_neg h,Lib.count_cons_ne b c l h];cases E:Lib.count l [c] with
  | zero=>rfl
  | succ k=>
    simp only [Lib.splitK];rw [aDY b c l h]
    by_cases u:Lib.index l [c] = -1
    ·simp [u,aDQ]
    ·have y:=Lib.index_ge l [c];have D:(Lib.index l [c] == -1)=false:=(by simpa using u);have j:(Lib.index l [c]+1 == -1)=false:=(by simp;omega);simp only [D,Bool.false_eq_true,if_false,j];obtain ⟨n,A⟩:∃ n:Nat,Lib.index l [c]=n:=⟨(Lib.index l [c]).toNat,by omega⟩;rw [A];rw [show ((n:Int)+1).toNat=n+1 by omega,show ((n:Int)).toNat=n by omega];simp [aDQ]
def byU (zs:List Int):List UInt8:=zs.map fun n=>UInt8.ofNat n.toNat
theorem aBK:∀ (zs:List Int),Bys zs->Lib.split (byU zs) [10]=(spl [] zs).map byU
 | [],_=>by
   show Lib.split [] [10]=_
   unfold Lib.split;rw [aHy];rfl
 | z::zs,h=>by
   have ih:=aBK zs (fun x y=>h x (by simp [y]));have A:=h z (by simp);have e:byU (z::zs)=UInt8.ofNat z.toNat::byU zs:=rfl;rw [e,aE7,ih,aIO]
   have u:UInt8.ofNat z.toNat=10 ↔ z=10:=by
    constructor
    ·intro h;have:=congrArg UInt8.toNat h;simp at this;omega
    ·intro h;subst h;rfl
   by_cases j:z=10
   ·rw [if_pos (u.2 j),if_pos j];rfl
   ·rw [if_neg (fun e=>j (u.1 e)),if_neg j];cases spl [] zs with
    | nil=>rfl
    | cons l ls=>rfl
theorem aEY (zs:List Int):(strOfNums zs).data.toList=byU zs:=rfl
theorem aAl (zs:List Int) (h:Bys zs):Lib.splitB ⟨#[10]⟩ 0 (Lib.countB (strOfNums zs) ⟨#[10]⟩) (strOfNums zs)=(spl [] zs).map strOfNums:=by
 have u:=Lib.splitB_data ⟨#[10]⟩ 0 (Lib.countB (strOfNums zs) ⟨#[10]⟩) (strOfNums zs);have A:Lib.splitK (⟨#[10]⟩:ByteArray).data.toList 0 (Lib.countB (strOfNums zs) ⟨#[10]⟩) (strOfNums zs).data.toList=Lib.split (byU zs) [10]:=rfl;rw [A,aBK zs h] at u
 have j:∀ (a:List ByteArray) (b:List (List Int)),a.map (·.data.toList)=b.map byU->a=b.map strOfNums:=by
  intro a
  induction a with
  | nil=>intro b e;cases b with
    | nil=>rfl
    | cons x b=>simp at e
  | cons x a ih=>
    intro b e;cases b with
    | nil=>simp at e
    | cons y b=>
      simp only [List.map_cons,List.cons.injEq] at e;rw [List.map_cons,ih b e.2];congr 1;have:x.data=(strOfNums y).data:=Array.toList_inj.1 (by rw [aEY];exact e.1);cases x;cases this;rfl
 exact j _ _ u
theorem aHc (zs:List Int) (h:Bys zs) (m:Int) (w:World) (y:zs.length<4294967281) (u:w.cell? ⟨1,0,none⟩=some (.int .i64 m)) :
  Calls prog 148 #[.string (strOfNums zs),.string { data:=#[10] }] w fun e w'=>e=.returned (.slice (some ⟨w.heap.size,0,none⟩) (spl [] zs).length (spl [] zs).length)/\w.alloc (.cells (((spl [] zs).map strOfNums).map Value.string).toArray 9)=w':=by
 have A:=Any.strings_Split aKA (by kernel_rfl) (strOfNums zs) { data:=#[10] } m w (by rw [strOfNums_size];exact y) u (by decide);refine A.mono ?_;rintro e w' ⟨rfl,rfl⟩;have j:=congrArg List.length (aAl zs h);rw [Lib.splitB_all _ (by decide) 0 _ _ rfl,List.length_map] at j;refine ⟨by rw [j],?_⟩;rw [<- aAl zs h];rfl
end Go.Proofs.YtgifkcpdihphlaaGreatDoor
namespace Go.Proofs.YtgifkcpdihphlaaGreatDoor
open Tryz
open Go.RowKit
attribute [-go_sem] Builtin.append_
theorem vM (a b:List Int):strOfNums a++strOfNums b=strOfNums (a++b):=by
 apply ByteArray.ext;simp [strOfNums,ByteArray.data_append]
theorem vH (t:List Int) (tv:Value) (w:World) (hv:RdB w.heap.size w tv t) (S:Sl tv t.length) (O:Bys t) (X:t.length<=1000000) :
  Calls prog 123 #[.agg #[.bool false,tv]] w fun e w'=>∃ f j,e=.returned (.func (.func f) #[] j)/\bT w' (fun k=>w.heap.size<=k/\k<w'.heap.size) f j (aG (47::47::t))/\w.grownBy w' none:=by
 have J:∀ (x:Bool) (w:World),(Op.unary .not (.bool x)).run prog w=.ok (.bool (!x)) w:=fun _ _=>rfl;obtain ⟨a,cap,y,_,_⟩:=S;subst y;have D:=World.grownBy_alloc w (Obj.cells #[.bool false,.slice a t.length cap] 81) none;have u:=qB (hv.K D);have A:Hid (∀ W:World,_):=fun W=>cI (47::47::t) (by intro z H;simp at H;rcases H with rfl | h;omega;exact O z h) (by simp;omega) W;have e:({ data:=#[47,47] } : ByteArray)++strOfNums t=strOfNums (47::47::t):=vM [47,47] t;rw [<- e] at A;have L:¬ 9223372036854775807<2+(strOfNums t).size:=(by rw [strOfNums_size];omega);have N:=aB D;clear hv D e
 go_enter func123,ntmps123
 go_wp2_with fail
 refine (A.out _).mono ?_;rintro e U ⟨f,j,rfl,E,g⟩;have M:=aB E;have G:=aB (aA N.out g);clear A E g u;go_wp2;go_ret;exact ⟨f,j,rfl,M.out.at (fun k h=>⟨by have:=h.1;simp at this;omega,h.2⟩) (fun _ _=>rfl),G.out⟩
theorem aDq:∀ (xs j:List Int),Bys xs->Bys j->∀ l∈spl j xs,Bys l
 | [],j,_,hc,l,hl=>by simp [spl] at hl;subst hl;exact hc
 | x::xs,j,hx,hc,l,hl=>by
   simp only [spl] at hl;have u:Bys xs:=fun z y=>hx z (by simp [y])
   split at hl
   ·rcases List.mem_cons.1 hl with rfl | h
    ·exact hc
    ·exact aDq xs [] u (fun z y=>by simp at y) l h
   ·exact aDq xs (j++[x]) u (fun z y=>by rcases List.mem_append.1 y with h | h;exact hc z h;simp at h;subst h;exact hx _ (by simp)) l hl
theorem aJK (xs j:List Int):∀ l∈spl j xs,l.length<=j.length+xs.length:=by
 intro l y;have h:=rP j xs
 have:∀ (u:List (List Int)),l∈u->l.length+1<=oR u:=by
  intro u
  induction u with
  | nil=>intro h;simp at h
  | cons m u ih=>
    intro h;simp only [oR];rcases List.mem_cons.1 h with rfl | h
    ·omega
    ·have:=ih h;omega
 have:=this _ y;omega
theorem aIM (h:List (List Int)):h.length<=oR h:=by
 induction h with
 | nil=>simp
 | cons m h ih=>simp only [oR,List.length_cons];omega
theorem tN (t:List Int) (tv:Value) (m:Int) (w:World) (hv:RdB w.heap.size w tv t) (hs:Sl tv t.length) (hb:Bys t) (hn:t.length<=1000000) (hM:w.cell? ⟨1,0,none⟩=some (.int .i64 m)) :
  Calls prog 123 #[.agg #[.bool true,tv]] w fun e w'=>∃ f A,e=.returned (.func (.func f) #[] A)/\bT w' (fun k=>w.heap.size<=k/\k<w'.heap.size) f A (cT (sX (spl [] (47::42::t++[42,47]))))/\w.grownBy w' none:=by
 have l1:∀ (x:Bool) (w:World),(Op.unary .not (.bool x)).run prog w=.ok (.bool (!x)) w:=fun _ _=>rfl;obtain ⟨a,cap,h9,_,_⟩:=hs;subst h9;have gA:=World.grownBy_alloc w (Obj.cells #[.bool true,.slice a t.length cap] 81) none;have b4:=qB (hv.K gA)
 have f7:Bys (47::42::t++[42,47]):=by
  intro z hz;simp at hz;rcases hz with rfl | rfl | h | rfl | rfl
  ·omega
  ·omega
  ·exact hb z h
  ·omega
  ·omega
 have d9:=gA.cell hM (by simp);have HS:=aB (aHc (47::42::t++[42,47]) f7 m _ (by simp;omega) d9)
 have e:(({ data:=#[47,42] } : ByteArray)++strOfNums t)++{ data:=#[42,47] } = strOfNums (47::42::t++[42,47]):=by
  have e1:=vM [47,42] t;have e2:=vM ([47,42]++t) [42,47];rw [<- e1] at e2;exact e2
 rw [<- e] at HS;have l4:¬ 9223372036854775807<2+(strOfNums t).size:=(by rw [strOfNums_size];omega);have j3:¬ 9223372036854775807<2+(strOfNums t).size+2:=(by rw [strOfNums_size];omega);have HL:=aB (aDq (47::42::t++[42,47]) [] f7 (fun z hz=>by simp at hz));have a6:=aB (aJK (47::42::t++[42,47]) []);have J:=aIM (spl [] (47::42::t++[42,47]));rw [rP] at J;simp only [List.length_nil,List.length_append,List.length_cons] at J;have HG:=aB gA;have HM:=aB hM;clear hv gA e hM d9
 obtain ⟨y,u,b9⟩:∃ y u,spl [] (47::42::t++[42,47])=y::u:=by
  cases h:spl [] (47::42::t++[42,47]) with
  | nil=>exact absurd h (aJR _ _)
  | cons y u=>exact ⟨y,u,rfl⟩
 rw [b9] at HS HL a6 J;have b0:=aB (show cT (sX (spl [] (47::42::t++[42,47])))=cT (aG y::rC u) by rw [b9,aIA]);have h0:Bys y:=HL.out y (by simp);have d1:=a6.out y (by simp);have c8:Hid (∀ W:World,_):=fun W=>cI y h0 (by simp at d1;omega) W;have i9:Hid (∀ W:World,_):=fun W=>dX 5 W;have j6:Hid (∀ (j:Nat) (hj:j<u.length) (W:World),_):=fun j hj W=>cI u[j] (HL.out _ (by simp)) (by have:=a6.out u[j] (by simp);simp at this;omega) W;clear b9 h0 d1 HL a6
 go_enter func123,ntmps123
 go_wp2_with fail
 refine HS.out.mono ?_;rintro e L ⟨rfl,a4⟩;have sA:(w.alloc (Obj.cells #[.bool true,.slice a t.length cap] 81)).heap.size=w.heap.size+1:=by simp
 have b3:∀ (j:Nat) (l:List Int),(y::u)[j]?=some l->L.cell? ⟨w.heap.size+1,j,none⟩=some (.string (strOfNums l)):=fun j l hj=>by
  rw [<- a4,<- sA];have:=World.cell?_alloc_mark (w.alloc (Obj.cells #[.bool true,.slice a t.length cap] 81)) (List.map Value.string (List.map strOfNums (y::u))).toArray 9 (0,0) j;rw [this];have e2:((y::u).map strOfNums).map Value.string=(y::u).map (fun l=>Value.string (strOfNums l)):=(by simp);rw [e2];simp only [List.getElem?_toArray,List.getElem?_map,hj,Option.map_some]
 have g1:w.grownBy L none:=(by rw [<- a4];exact aA HG.out gWA);have s1:L.heap.size=w.heap.size+2:=(by rw [<- a4];simp);have d6:=aB b3;have k2:=b3 0 y rfl;have G1:=aB g1;have c0:(y::u).length=u.length+1:=rfl;rw [sA,c0];rw [c0] at J;have d3:=aB (c8.out L);clear HS a4 b3 g1 c8 b4 sA c0
 go_wp2_with fail
 refine d3.out.mono ?_;rintro e w2 ⟨f0,S,rfl,f5,g2⟩;have G:=aGp g2 f5;have g3:=World.grownBy_alloc w2 (Obj.cells #[.func (.func f0) #[] S] 92) none;have f9:=aB G;have G3:=aB (aA g2 g3)
 have a8:∀ j,j<u.length->L.cell? ⟨w.heap.size+1,1+j,none⟩=some (.string (strOfNums (u[j]?.getD []))):=fun j hj=>by
  have h1:=d6.out (1+j) (u[j]'hj) (by rw [Nat.add_comm];simp [hj]);rw [h1];simp [hj]
 clear d3 f5 G g2 g3 k2 d6
 by_cases d4:u.length=0
 ·have i1:u=[]:=List.eq_nil_of_length_eq_zero d4;subst i1;simp only [List.length_nil,Nat.zero_add];go_wp2
  go_loopw [4,29] (fun pv i U=>pv=.slice (some ⟨w2.heap.size,0,none⟩) 1 1/\i=.int .i64 0/\(w2.alloc (Obj.cells #[.func (.func f0) #[] S] 92))=U) (fun _ _ _=>0)
  case atStart=>exact ⟨rfl,rfl,rfl⟩
  case round=>
   obtain ⟨rfl,rfl,b6⟩:=hrel;have H:Hid (PoL L.heap.size wr (.slice (some ⟨w2.heap.size,0,none⟩) 1 1) (aG y::rC [])):=(by unfold Hid;rw [<- b6];exact f9.out);have gx:L.grownBy wr none:=(by rw [<- b6];exact G3.out);have GX:=aB gx;clear b6 gx;have c1:=H.out.pa;obtain ⟨F,hF,E⟩:=c1;have N:=aB (rU _ _ F wr E (fun k h=>(hF k h).2) (by simp [rC]));have O:=aB hF;clear E hF
   go_wp2_with fail
   refine N.out.mono ?_;rintro e w5 ⟨f,A,rfl,M,Z⟩;have c2:=aB M;have X:=aB (aA (aA G1.out GX.out) Z);have i4:=Z.size;have j5:=G1.out.size;clear N M Z;go_wp2;go_ret;refine ⟨f,A,rfl,?_,X.out⟩;have D:=c2.out;rw [<- b0.out] at D;exact D.at (fun k h=>h.elim (fun h=>⟨by have:=(O.out k h).1;omega,by have:=(O.out k h).2;omega⟩) (fun h=>⟨by have:=h.1;have:=GX.out.size;omega,h.2⟩)) (fun _ _=>rfl)
 ·have k9:((u.length:Int)+1==1)=false:=by
   rw [beq_eq_false_iff_ne];omega
  have j7:(u.length+1==1)=false:=(by simpa using d4);have k3:u.length<=1000010:=(by omega);have i6:=aB a8;clear a8;go_wp2
  go_loopw [4,29] (fun pv i U=>∃ (j:Nat),j<=u.length/\i=.int .i64 j/\PoL L.heap.size U pv (aG y::rC (u.take j))/\L.grownBy U none)
   (fun _ i _=>u.length - (intOf i).toNat)
  case atStart=>exact ⟨0,Nat.zero_le _,rfl,f9.out,G3.out⟩
  case round=>
   obtain ⟨j,hj,rfl,G,gU⟩:=hrel;have gx:=gU;have m4:=gx.size
   have i7:(aG y::rC (u.take j)).length<=2000030:=by
    have h:∀ (l:List (List Int)),(rC l).length=2*l.length:=by
     intro l
     induction l with
     | nil=>rfl
     | cons x l ih=>rw [show rC (x::l)=[aI 5,aG x]++rC l by simp [rC],List.length_append,ih];simp;omega
    rw [List.length_cons,h,List.length_take];omega
   obtain ⟨pa,pc,c3⟩:=G.sl;have H:=aB G
   by_cases a7:j<u.length
   ·have d0:=gU.cell (i6.out j a7) (by simp);have d7:u[j]?.getD []=u[j]:=(by simp [a7]);rw [d7] at d0;have c7:=aB (j6.out j a7)
    have j8:=aB (show rC (u.take (j+1))=rC (u.take j)++[aI 5,aG u[j]] by
     rw [show u.take (j+1)=u.take j++[u[j]] by rw [List.take_add_one];simp [a7]];simp only [rC,List.flatMap_append,List.flatMap_cons,List.flatMap_nil,List.append_nil])
    have d5:=aB (i9.out wr);have GX:=aB gx;have k1:=aB gU;generalize d2:(aG y::rC (u.take j)).length=PL at *;subst c3;clear G gU gx d7;generalize u[j]=lj at *
    go_wp2_with fail
    refine d5.out.mono ?_;rintro e w3 ⟨f3,b7,rfl,g0,g3⟩;have g7:=aB g0;have c6:=aB g3;clear d5 g0 g3
    go_wp2_with fail
    refine (c7.out w3).mono ?_;rintro e w4 ⟨f4,b5,rfl,f8,g4⟩;have h3:=g7.out.more (Nat.le_refl _) g4;have h4:=f8.more c6.out.size (World.grownBy.refl _ _);have Y:=aA c6.out g4;have c9:=aFH Y h3 h4;have gA:=World.grownBy_alloc w4 (Obj.cells #[.func (.func f3) #[] b7,.func (.func f4) #[] b5] 92) none;have m5:=Y.size;obtain ⟨v5,w5,k5,o5,Z⟩:=cJ L.heap.size _ _ _ _ _ _ ((H.out.K Y).K gA) c9 (fun k hk=>⟨by have:=hk.1;omega,hk.2,fun e=>by have h1:=hk.1;have h2:=(H.out.lt k e).2;omega⟩) (by simp;omega) (by rw [d2];simp;omega);obtain ⟨a5,c5,g6⟩:=o5.sl;have j9:(aG y::rC (u.take j)++[aI 5,aG lj]).length=PL+2:=(by rw [List.length_append,d2];rfl);rw [j9] at g6;have j2:Hid (PoL L.heap.size w5 v5 (aG y::rC (u.take (j+1)))):=(by unfold Hid;rw [j8.out];exact o5);have X:=aB (aU (aA k1.out (aA Y gA)) Z (fun x e=>(H.out.lt x e).1));subst g6;clear o5 Z c9 gA Y h3 h4 g7 f8 g4 c7 d0;go_wp2
    go_roundw
    case rel=>exact ⟨j+1,by omega,by go_num,j2.out,X.out⟩
    case measure=>simp [intOf];omega
   ·have i8:j=u.length:=(by omega);subst i8;rw [List.take_length] at H c3 i7;have GX:=aB gx;subst c3;clear G gU gx;have c1:=H.out.pa;obtain ⟨F,hF,E⟩:=c1;have N:=aB (rU _ _ F wr E (fun k h=>(hF k h).2) (by omega));have O:=aB hF;clear E hF
    go_wp2_with fail
    refine N.out.mono ?_;rintro e w5 ⟨f,A,rfl,M,Z⟩;have c2:=aB M;have X:=aB (aA (aA G1.out GX.out) Z);have i4:=Z.size;have j5:=G1.out.size;clear N M Z;go_wp2;go_ret;refine ⟨f,A,rfl,?_,X.out⟩;have D:=c2.out;rw [<- b0.out] at D;exact D.at (fun k h=>h.elim (fun h=>⟨by have:=(O.out k h).1;omega,by have:=(O.out k h).2;omega⟩) (fun h=>⟨by have:=h.1;have:=GX.out.size;omega,h.2⟩)) (fun _ _=>rfl)
theorem oF (c:Cm) (tv:Value) (m:Int) (w:World) (hv:RdB w.heap.size w tv c.t) (y:Sl tv c.t.length) (u:Bys c.t) (j:c.t.length<=1000000) (A:w.cell? ⟨1,0,none⟩=some (.int .i64 m)) :
  Calls prog 123 #[.agg #[.bool c.b,tv]] w fun e w'=>∃ f h,e=.returned (.func (.func f) #[] h)/\bT w' (fun k=>w.heap.size<=k/\k<w'.heap.size) f h (jP c)/\w.grownBy w' none:=by
 obtain ⟨b,t⟩:=c;cases b with
 | false=>exact vH t tv w hv y u j
 | true=>exact tN t tv m w hv y u j A
theorem mR (cv:Value) (h:List Cm) (m:Int) (w:World) (hc:RdC w.heap.size w cv h) (ho:aAR h) (hn:wC h<=4000000) (hM:w.cell? ⟨1,0,none⟩=some (.int .i64 m)) :
  Calls prog 89 #[cv] w fun e w'=>∃ v',e=.returned v'/\PoL w.heap.size w' v' (bI h)/\w.grownBy w' none:=by
 have b2:=aB hc;have h7:=aCS h;obtain ⟨a,cap,b8,_,_,_⟩:=id hc;have HM:=aB hM;subst b8;clear hc hM
 go_enter func89,ntmps89
 go_wp2
 go_loopw [3,8] (fun pv i U=>∃ (j:Nat),j<=h.length/\i=.int .i64 j/\PoL w.heap.size U pv (bI (h.take j))/\w.grownBy U none)
  (fun _ i _=>h.length - (intOf i).toNat)
 case atStart=>exact ⟨0,Nat.zero_le _,rfl,PoL.nil _ _,World.grownBy.refl _ _⟩
 case round=>
  obtain ⟨j,hj,rfl,A,J⟩:=hrel;have b9:=J.size;have f7:(bI (h.take j)).length<=4000000:=(by have h1:=cU (bI (h.take j));have h2:=sC h j;omega);obtain ⟨pa,pc,H⟩:=A.sl;have u:=aB A;have X:=aB J
  by_cases D:j<h.length
  ·obtain ⟨b,off,d2,tv,c3,d8,c0,c1,Y,N⟩:=(b2.out.K J).at j D;cases c3;have hm:=aDz h h[j] (List.getElem_mem D);have a7:=(ho _ (List.getElem_mem D)).2;have HC:Hid (∀ W:World,wr.grownBy W none->_):=fun W (g:wr.grownBy W none)=>oF h[j] tv m W ((Y.K g).wideC (Nat.le_trans b9 g.size)) N a7 (by omega) ((aA J g).cell HM.out (by simp));have HL:Hid (∀ W:World,_):=fun W=>dX 4 W;have HE:=aB (show bI (h.take (j+1))=bI (h.take j)++[jP h[j],aI 4] by rw [show h.take (j+1)=h.take j++[h[j]] by rw [List.take_add_one];simp [D],aB3]);obtain ⟨ta,tc,a8,_,_⟩:=N;generalize a6:(bI (h.take j)).length=PL at *;subst H a8;clear A J Y a7;generalize h[j]=c at *;have gB:wr.grownBy (wr.alloc (Obj.cells #[.bool c.b,.slice ta c.t.length tc] 81)) none:=gWA;have GB:=aB gB
   go_wp2_with fail
   refine (HC.out _ gB).mono ?_;rintro e w3 ⟨f3,E,rfl,O,g3⟩;have a4:=aB O;have L:=aB (aA gB g3);clear O g3
   go_wp2_with fail
   refine (HL.out w3).mono ?_;rintro e w4 ⟨f4,G,rfl,S,g4⟩;have h3:=a4.out.more (B:=wr.heap.size) GB.out.size g4;have h4:=S.more (B:=wr.heap.size) L.out.size (World.grownBy.refl _ _);have y:=aA L.out g4;have M:=aFH y h3 h4;have gA:=World.grownBy_alloc w4 (Obj.cells #[.func (.func f3) #[] E,.func (.func f4) #[] G] 92) none;have h5:=y.size;obtain ⟨v5,w5,c6,o5,g5⟩:=cJ w.heap.size _ _ _ _ _ _ ((u.out.K y).K gA) M (fun k hk=>⟨by have:=hk.1;omega,hk.2,fun e=>by have h1:=hk.1;have h2:=(u.out.lt k e).2;omega⟩) (by simp;omega) (by rw [a6];simp;omega);obtain ⟨a5,c5,Z⟩:=o5.sl;have b6:(bI (h.take j)++[jP c,aI 4]).length=PL+2:=(by rw [List.length_append,a6];rfl);rw [b6] at Z;have b7:Hid (PoL w.heap.size w5 v5 (bI (h.take (j+1)))):=(by unfold Hid;rw [HE.out];exact o5);have b5:=aB (aU (aA X.out (aA y gA)) g5 (fun x e=>(u.out.lt x e).1));subst Z;clear o5 g5 M gA y h3 h4 a4 S g4 HC HL c0 c1;go_wp2
   go_roundw
   case rel=>exact ⟨j+1,by omega,by go_num,b7.out,b5.out⟩
   case measure=>simp [intOf];omega
  ·have b3:j=h.length:=(by omega);subst b3;rw [List.take_length] at u H;subst H;clear A J;generalize (bI h).length=LL at *;go_wp2;go_ret;exact ⟨_,rfl,u.out,X.out⟩
theorem qZ (cv:Value) (u:List Cm) (m:Int) (w:World) (hc:RdC w.heap.size w cv u) (ho:aAR u) (hn:wC u<=4000000) (hM:w.cell? ⟨1,0,none⟩=some (.int .i64 m)) :
  Calls prog 144 #[cv] w fun e w'=>∃ v',e=.returned v'/\PoL w.heap.size w' v' (cW u)/\w.grownBy w' none:=by
 have c4:=aB hc;have i7:=aCS u;obtain ⟨a,cap,d9,_,_,_⟩:=id hc;have HM:=aB hM;subst d9;clear hc hM
 go_enter func144,ntmps144
 go_wp2
 go_loopw [3,8] (fun pv i U=>∃ (j:Nat),j<=u.length/\i=.int .i64 j/\PoL w.heap.size U pv (cW (u.take j))/\w.grownBy U none)
  (fun _ i _=>u.length - (intOf i).toNat)
 case atStart=>exact ⟨0,Nat.zero_le _,rfl,PoL.nil _ _,World.grownBy.refl _ _⟩
 case round=>
  obtain ⟨j,hj,rfl,H,O⟩:=hrel;have f5:=O.size;have i4:(cW (u.take j)).length<=4000000:=(by have h1:=cU (cW (u.take j));have h2:=sC u j;omega);obtain ⟨pa,pc,N⟩:=H.sl;have y:=aB H;have b4:=aB O
  by_cases J:j<u.length
  ·obtain ⟨b,off,f7,tv,c8,j5,c0,c1,a8,b2⟩:=(c4.out.K O).at j J;cases c8;have hm:=aDz u u[j] (List.getElem_mem J);have a6:=(ho _ (List.getElem_mem J)).2;have HC:Hid (∀ W:World,wr.grownBy W none->_):=fun W (g:wr.grownBy W none)=>oF u[j] tv m W ((a8.K g).wideC (Nat.le_trans f5 g.size)) b2 a6 (by omega) ((aA O g).cell HM.out (by simp));have HL:Hid (∀ W:World,_):=fun W=>dX 4 W;have HE:=aB (show cW (u.take (j+1))=cW (u.take j)++[aI 4,jP u[j]] by rw [show u.take (j+1)=u.take j++[u[j]] by rw [List.take_add_one];simp [J],aBS]);obtain ⟨ta,S,c2,_,_⟩:=b2;generalize Z:(cW (u.take j)).length=PL at *;subst N c2;clear H O a8 a6;generalize u[j]=c at *;have gB:wr.grownBy (wr.alloc (Obj.cells #[.bool c.b,.slice ta c.t.length S] 81)).drew none:=aA gWA ⟨rfl,rfl,rfl,Nat.le_refl _,fun _ _ _=>rfl⟩;have GB:=aB gB;obtain ⟨I,hI⟩:∃ I:World->Prop,I=(fun W:World=>W.cell? ⟨wr.heap.size,0,none⟩=some (.bool c.b)/\W.cell? ⟨wr.heap.size,1,none⟩=some (.slice ta c.t.length S)):=⟨_,rfl⟩;have M:I (wr.alloc (Obj.cells #[.bool c.b,.slice ta c.t.length S] 81)).drew:=(by rw [hI];exact ⟨by simp [go_sem],by simp [go_sem]⟩);have A:∀ (U U':World) (r:Option Nat),I U->U.grownBy U' r->some wr.heap.size≠r->I U':=fun U U' r h g hr=>by rw [hI] at h ⊢;exact ⟨g.cell h.1 hr,g.cell h.2 hr⟩
   go_wp2;refine cS I (fun _=>false) (by kernel_rfl) ?_
   show kZ _ _ _ _ _ _ 7 (Array.replicate 7 false) _ _
   refine bE (i:=0) (.slice pa PL pc) rfl M (cC rfl (fun W hW=>by go_simp)) ?_;refine bE (i:=2) (.agg #[.bool c.b,.slice ta c.t.length S]) rfl M (cC rfl (fun W hW=>by rw [hI] at hW;obtain ⟨h1,h2⟩:=hW;go_simp)) ?_;generalize hG:Act.put _ _ _=A0;simp [Act.put] at hG;subst hG;refine aL (i:=1) (by kernel_rfl) (eC rfl rfl (by go_simp) (HL.out (wr.alloc (Obj.cells #[.bool c.b,.slice ta c.t.length S] 81)).drew) ?_);rintro e w3 ⟨f3,E,rfl,b3,g3⟩;have X:=A _ _ none M g3 (by simp);have b6:=aB b3;have L:=aB (aA gB g3);refine ⟨_,rfl,.inr X,?_⟩;clear b3 g3;refine aL (i:=3) (by kernel_rfl) (eC rfl rfl (by go_simp) (HC.out w3 L.out) ?_);rintro e w4 ⟨f4,D,rfl,a7,g4⟩;have a9:=A _ _ none X g4 (by simp);refine ⟨_,rfl,.inr a9,?_⟩;have h3:=b6.out.more (B:=wr.heap.size) GB.out.size g4;have h4:=a7.more (B:=wr.heap.size) L.out.size (World.grownBy.refl _ _);have G:=aA L.out g4;have Y:=aFH G h3 h4;have gA:=World.grownBy_alloc w4 (Obj.cells #[.func (.func f3) #[] E,.func (.func f4) #[] D] 92) none;have j4:=G.size;obtain ⟨v5,w5,g2,o5,g5⟩:=cJ w.heap.size _ _ _ _ _ _ ((y.out.K G).K gA) Y (fun k hk=>⟨by have:=hk.1;omega,hk.2,fun e=>by have h1:=hk.1;have h2:=(y.out.lt k e).2;omega⟩) (by simp;omega) (by rw [Z];simp;omega);obtain ⟨a5,c5,b5⟩:=o5.sl;have d8:(cW (u.take j)++[aI 4,jP c]).length=PL+2:=(by rw [List.length_append,Z];rfl);rw [d8] at b5;have d6:Hid (PoL w.heap.size w5 v5 (cW (u.take (j+1)))):=(by unfold Hid;rw [HE.out];exact o5);have d5:=aB (aU (aA b4.out (aA G gA)) g5 (fun x e=>(y.out.lt x e).1));have a4:=A _ _ none a9 gA (by simp);have b0:=A _ _ _ a4 g5 (fun e=>by have:=(y.out.lt _ e.symm).2;omega);subst b5;clear o5 g5 Y gA G h3 h4 b6 a7 g4 HC HL c0 c1 A;refine aL (i:=4) (by kernel_rfl) (bM (w':=w4.alloc (Obj.cells #[.func (.func f3) #[] E,.func (.func f4) #[] D] 92)) (v:=.slice (some ⟨w4.heap.size,0,none⟩) 2 2) rfl rfl (by go_simp) ⟨.inr a4,?_⟩);refine aL (i:=5) (by kernel_rfl) (bM (w':=w5) (v:=.slice a5 (PL+2) c5) rfl rfl (by go_simp) ⟨.inr b0,?_⟩);refine aL (i:=6) (by kernel_rfl) (bM (w':=w5) (v:=.slice a5 (PL+2) c5) rfl rfl (by go_simp) ⟨.inr b0,?_⟩);refine eD (by kernel_rfl) ?_ _;subst hI;go_wp2
   go_roundw
   case rel=>exact ⟨j+1,by omega,by go_num,d6.out,d5.out⟩
   case measure=>simp [intOf];omega
  ·have d0:j=u.length:=(by omega);subst d0;rw [List.take_length] at y N;subst N;clear H O;generalize (cW u).length=LL at *;go_wp2;go_ret;exact ⟨_,rfl,y.out,b4.out⟩
end Go.Proofs.YtgifkcpdihphlaaGreatDoor
namespace Go.Proofs.YtgifkcpdihphlaaGreatDoor
open Tryz
open Go.RowKit
theorem lS (p:Int) (w:World):Calls prog 162 #[.int .i32 p] w fun e w'=>e=.returned (.bool (iA p))/\w=w':=by
 by_cases h:iA p=true
 ·have j:Hid (iA p=true):=h;have u:(97<=p/\p<=122)\/(65<=p/\p<=90)\/p=95\/p=36:=(by simpa [iA] using h);clear h;rcases u with ⟨A,D⟩ | ⟨A,D⟩ | rfl | rfl
  ·have y:¬ p<=90:=(by omega);have E:65<=p:=by omega
   go_enter func162,ntmps162
   go_wp2;go_ret;exact ⟨by rw [j.out];rfl,rfl⟩
  ·have y:¬ 97<=p:=by omega
   go_enter func162,ntmps162
   go_wp2;go_ret;exact ⟨by rw [j.out];rfl,rfl⟩
  all_goals
   go_enter func162,ntmps162
   go_wp2;go_ret;exact ⟨rfl,rfl⟩
 ·have j:Hid (iA p=false):=(by simpa [Hid] using h);have u:¬ ((97<=p/\p<=122)\/(65<=p/\p<=90)\/p=95\/p=36):=(by simpa [iA] using h);clear h;have G:(p==95)=false:=(by simp;omega);have H:(p==36)=false:=by simp;omega
  by_cases A:65<=p
  ·have D:¬ p<=90:=by omega
   by_cases y:97<=p
   ·have E:¬ p<=122:=(by omega);clear u
    go_enter func162,ntmps162
    go_wp2;go_ret;exact ⟨by rw [j.out];rfl,rfl⟩
   ·clear u
    go_enter func162,ntmps162
    go_wp2;go_ret;exact ⟨by rw [j.out];rfl,rfl⟩
  ·have y:¬ 97<=p:=(by omega);clear u
   go_enter func162,ntmps162
   go_wp2;go_ret;exact ⟨by rw [j.out];rfl,rfl⟩
theorem gZ (p:Int) (w:World):Calls prog 161 #[.int .i32 p] w fun e w'=>e=.returned (.bool (iA p||aK p))/\w=w':=by
 cases h:iA p
 all_goals
  go_enter func161,ntmps161
  go_wp2_with (first
   | (go_at_call 162;refine (lS _ _).mono ?_;rintro e w' ⟨rfl,rfl⟩;rw [h])
   | (go_at_call 180;refine (fP _ _).mono ?_;rintro e w' ⟨rfl,rfl⟩))
  go_ret;exact ⟨by simp,rfl⟩
theorem zS (v:Value) (zs:List Int) (w:World) (hv:RdI w.heap.size w v zs) (hn:zs.length<=2097152) :
  Calls prog 146 #[v] w fun e w'=>e=.returned (.bool (nmR zs))/\w=w':=by
 obtain ⟨a,cap,rfl,S⟩:=hv;have X:∀ (x:Bool) (w:World),(Op.unary .not (.bool x)).run prog w=.ok (.bool (!x)) w:=fun _ _=>rfl
 go_enter func146,ntmps146
 go_wp2
 go_loopw [7] (fun i wr=>∃ k:Nat,k<=zs.length/\i=.int .i64 k/\tS zs k=true/\w=wr)
  (fun i _=>zs.length - (intOf i).toNat)
 case atStart=>exact ⟨0,Nat.zero_le _,rfl,rfl,rfl⟩
 case round=>
  obtain ⟨k,hk,rfl,A,rfl⟩:=hrel
  by_cases G:k<zs.length
  ·obtain ⟨b,off,rfl,hb,Y⟩:=S (fun h=>by simp [h] at G);have O:=Y k G;have y:=aB (aB4 zs k A);have u:=aB (aGj zs k G);generalize zs[k]?.getD 0=p at O y u;clear Y S;cases E:bZ p
   ·have H:Hid (nmR zs=false):=u.out (by simp [bZ] at E;simp [vT,iA,aK];omega);clear y u
    go_wp2_with (first
     | (go_at_call 153;refine (eZ _ _).mono ?_;rintro e w' ⟨rfl,rfl⟩;rw [E]))
    go_ret;exact ⟨by rw [H.out];rfl,rfl⟩
   ·have U:0<=p/\p<65536:=(by simpa [bZ] using E);have a7:IntKind.i32.wrap p=p:=(by rw [IntKind.wrap];simp [IntKind.bits,IntKind.signed];omega);obtain ⟨Z,a5⟩:=U;cases D:iA p
    ·cases M:aK p
     ·have H:Hid (nmR zs=false):=u.out (by simp [vT,D,M]);clear y u
      go_wp2_with (first
       | (go_at_call 153;refine (eZ _ _).mono ?_;rintro e w' ⟨rfl,rfl⟩;rw [E])
       | (go_at_call 161;refine (gZ _ _).mono ?_;rintro e w' ⟨rfl,rfl⟩;rw [D,M]))
      go_ret;exact ⟨by rw [H.out];rfl,rfl⟩
     ·by_cases j:k=0
      ·have J:((k:Int)==0)=true:=(by simp [j]);have H:Hid (nmR zs=false):=u.out (by simp [vT,D,j]);have HK:=aB j;clear y u j
       go_wp2_with (first
        | (go_at_call 153;refine (eZ _ _).mono ?_;rintro e w' ⟨rfl,rfl⟩;rw [E])
        | (go_at_call 161;refine (gZ _ _).mono ?_;rintro e w' ⟨rfl,rfl⟩;rw [D,M])
        | (go_at_call 162;refine (lS _ _).mono ?_;rintro e w' ⟨rfl,rfl⟩;rw [D]))
       go_ret;exact ⟨by rw [H.out];rfl,rfl⟩
      ·have J:((k:Int)==0)=false:=(by simp;omega);have N:Hid (tS zs (k+1)=true):=y.out (by simp [vT,D,M,j]);clear y u
       go_wp2_with (first
        | (go_at_call 153;refine (eZ _ _).mono ?_;rintro e w' ⟨rfl,rfl⟩;rw [E])
        | (go_at_call 161;refine (gZ _ _).mono ?_;rintro e w' ⟨rfl,rfl⟩;rw [D,M]))
       go_roundw
       case rel=>exact ⟨k+1,by omega,by go_num,N.out,trivial⟩
       case measure=>simp [intOf];omega
    ·have N:Hid (tS zs (k+1)=true):=y.out (by simp [vT,D]);clear y u
     by_cases j:k=0
     ·have J:((k:Int)==0)=true:=(by simp [j]);have HK:=aB j;clear j
      go_wp2_with (first
       | (go_at_call 153;refine (eZ _ _).mono ?_;rintro e w' ⟨rfl,rfl⟩;rw [E])
       | (go_at_call 161;refine (gZ _ _).mono ?_;rintro e w' ⟨rfl,rfl⟩;rw [D])
       | (go_at_call 162;refine (lS _ _).mono ?_;rintro e w' ⟨rfl,rfl⟩;rw [D]))
      go_roundw
      case rel=>exact ⟨k+1,by omega,by go_num,N.out,trivial⟩
      case measure=>simp [intOf];omega
     ·have J:((k:Int)==0)=false:=by simp;omega
      go_wp2_with (first
       | (go_at_call 153;refine (eZ _ _).mono ?_;rintro e w' ⟨rfl,rfl⟩;rw [E])
       | (go_at_call 161;refine (gZ _ _).mono ?_;rintro e w' ⟨rfl,rfl⟩;rw [D]))
      go_roundw
      case rel=>exact ⟨k+1,by omega,by go_num,N.out,trivial⟩
      case measure=>simp [intOf];omega
  ·have L:k=zs.length:=(by omega);rw [L] at A;have H:Hid (nmR zs=decide (0<zs.length)):=aGa zs A;have HG:Hid (decide ((0:Int)<(zs.length:Int))=decide (0<zs.length)):=(by simp [Hid]);clear S A L;go_wp2;go_ret;exact ⟨by rw [H.out,<- HG.out];rfl,rfl⟩
theorem aIt (p:Int) (j:0<=p) (u:p<=1114111):Bys (enc p):=by
 intro z h;unfold enc at h
 repeat' split at h
 all_goals simp at h
 all_goals omega
theorem aCF (n:Int) (h:0<=n) (j:n<16):0<=nG n/\nG n<=255:=by unfold nG;split<;>omega
theorem aIz (p:Int) (j:0<=p) (u:p<=1114111):Bys (fT p):=by
 unfold fT
 split
 ·intro z h;unfold qM at h
  repeat' split at h
  all_goals simp at h
  all_goals omega
 ·split
  ·intro z h;have a:=aCF (p / 4096%16) (by omega) (by omega);have b:=aCF (p / 256%16) (by omega) (by omega);have c:=aCF (p / 16%16) (by omega) (by omega);have d:=aCF (p%16) (by omega) (by omega);simp [dN] at h;omega
  ·exact aIt p j u
theorem aGO (y:List Int):Bys (quR y).1:=by
 unfold quR
 split
 ·rename_i h
  intro z j;simp only [List.cons_append,List.mem_cons,List.mem_append,List.not_mem_nil,or_false] at j;rcases j with rfl | j | rfl
  ·omega
  ·unfold jM at j;obtain ⟨p,A,j⟩:=List.mem_flatMap.1 j;have u:=aH9 y h p A;exact aIz p u.1 u.2 z j
  ·omega
 ·intro z j;simp at j
theorem aIv (j:List Int):Bys (cO j):=by
 unfold cO
 split
 ·rename_i h
  intro z u;have:=(aA5 z (aAx j h z u)).2;omega
 ·exact aGO j
theorem rF (v:Value) (h:List Int) (w:World) (M:Tab w) (hv:RdI w.heap.size w v h) (L:h.length<=1048576) :
  Calls prog 117 #[v] w fun e w'=>e=.returned (.string (strOfNums (quR h).1))/\w.grownBy w' none:=by
 have E:=aB (aBy v h w M hv L);obtain ⟨a,cap,y,_⟩:=id hv;subst y;clear hv
 go_enter func117,ntmps117
 go_wp2_with fail
 refine E.out.mono ?_;rintro e N ⟨S,rfl,u,H⟩;have A:=qB u.rd;obtain ⟨a1,O,D,_,_⟩:=u.sl;have G:=aB H;generalize J:(quR h).1=qs at *;have j:=aB J;subst D;clear E u H J;go_wp2;go_ret;exact ⟨by rw [j.out];rfl,G.out⟩
theorem aJT (h:List Int):(strOfNums (34::h++[34])).extract 1 (h.length+1)=strOfNums h:=by
 apply ByteArray.ext;apply Array.toList_inj.1;rw [Lib.extract_data,strOfNums_data,strOfNums_data];simp
theorem aEL (v:Value) (h:List Int) (w:World) (N:Tab w) (hv:RdI w.heap.size w v h) (L:h.length<=1048576) :
  Calls prog 119 #[v] w fun e w'=>e=.returned (.string (strOfNums (cO h)))/\w.grownBy w' none:=by
 have H:=aB (rF v h w N hv L);have E:Hid (∀ W:World,w.grownBy W none->_):=fun W (g:w.grownBy W none)=>zS v h W ((hv.K g).wideC g.size) (by omega);obtain ⟨a,cap,A,_⟩:=id hv;subst A;clear hv
 go_enter func119,ntmps119
 go_wp2_with fail
 refine H.out.mono ?_;rintro e J ⟨rfl,u⟩;have j:=aB (E.out J u);have G:=aB u;clear H E u
 go_wp2_with fail
 refine j.out.mono ?_;rintro e S ⟨rfl,rfl⟩;clear j;cases D:nmR h with
 | false=>
   have y:=aB (show cO h=(quR h).1 by unfold cO;rw [D];rfl);go_wp2;go_ret;exact ⟨by rw [y.out];rfl,G.out⟩
 | true=>
   have y:=aB (show cO h=h by unfold cO;rw [D];rfl);have O:=aJT h;rw [aKl h D];have M:(strOfNums (34::h++[34])).size=h.length+2:=(by rw [strOfNums_size];simp);simp only;generalize strOfNums (34::h++[34])=qs at *;go_wp2;go_ret;refine ⟨?_,G.out⟩;rw [y.out,<- O];rfl
end Go.Proofs.YtgifkcpdihphlaaGreatDoor
