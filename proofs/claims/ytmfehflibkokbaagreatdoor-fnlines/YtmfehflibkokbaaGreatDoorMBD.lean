import Derived.Shelf.Bytes.SlIndexSmall
import Derived.Shelf.Bytes.SlIndexWhole
import Derived.Test.YtmfehflibkokbaaGreatDoorMAJ
import Derived.Test.YtmfehflibkokbaaGreatDoorMBC
set_option maxHeartbeats 16000000
set_option maxRecDepth 100000
namespace Go.Proofs.YtmfehflibkokbaaGreatDoor
open Go.Proofs.Tryz
open Go.RowKit
attribute [-go_sem] Builtin.append_
theorem aDw (v:Value) (zs:List Int) (w:World) (hv:RdI w.heap.size w v zs) (hz:∀ z∈zs,0<=z/\z<128) (hn:zs.length<=1048576) :
  Calls prog 111 #[v] w fun e w'=>∃ Y,e=.returned Y/\Bw w.heap.size w' Y zs/\w.grownBy w' none:=by
 have HV:=aB hv;obtain ⟨a,cap,N,_⟩:=id hv;subst N;clear hv
 go_enter func111,ntmps111
 go_wp2
 go_loopw [3,4] (fun o i W=>∃ (k:Nat),k<=zs.length/\i=.int .i64 k/\Bw w.heap.size W o (zs.take k)/\w.grownBy W none)
  (fun _ i _=>zs.length - (intOf i).toNat)
 case atStart=>exact ⟨0,Nat.zero_le _,rfl,Bw.nil _ _,World.grownBy.refl _ _⟩
 case round=>
  obtain ⟨k,hk,rfl,A,G⟩:=hrel;have D:(zs.take k).length=k:=(by simp;omega);obtain ⟨oa,oc,y,_,_⟩:=A.sl;rw [D] at y
  by_cases h:k<zs.length
  ·obtain ⟨a',S,e,hr⟩:=HV.out.K G;simp only [Value.slice.injEq,true_and] at e;obtain ⟨rfl,rfl⟩:=e;obtain ⟨b,off,rfl,b4,U⟩:=hr (fun e=>by rw [e] at h;simp at h);have a9:=U k h;have b0:0<=zs[k]?.getD 0/\zs[k]?.getD 0<128:=(by rw [List.getElem?_eq_getElem h];exact hz _ (List.getElem_mem h));have HT:=aB (eG zs k h);have HO:=aB A;subst y;clear hr U A;generalize zs[k]?.getD 0=p at *;obtain ⟨v2,w2,X,o2,Z,a2,c2,E⟩:=aHC w.heap.size wr (.slice oa k oc) (zs.take k) p HO.out G.size (by omega);rw [D] at E;have J:Hid (Bw w.heap.size w2 v2 (zs.take (k+1))):=(by unfold Hid;rw [HT.out];exact o2);have M:=aB (bA G Z (fun j e=>(HO.out.lt j e).1));subst E;clear o2 Z HT;go_wp2
   go_roundw
   case rel=>exact ⟨k+1,by omega,by go_num,J.out,M.out⟩
   case measure=>simp [intOf];omega
  ·have O:k=zs.length:=(by omega);subst O;rw [List.take_length] at A;subst y;go_wp2;go_ret;exact ⟨_,rfl,A,G⟩
theorem aBc (v:Value) (y:List Int) (w:World) (hv:RdI w.heap.size w v y) (U:y.length<=1048576) :
  Calls prog 75 #[v] w fun e w'=>∃ X,e=.returned X/\Bw w.heap.size w' X (fS y)/\w.grownBy w' none:=by
 have J:=aB (zW v y w hv (by omega));have G:=aB (sG v y w hv U);have N:=aB (fun h:nmR y=true=>aDw v y w hv (fun z Y=>(zC z (aAk y h z Y)).2) U);obtain ⟨a,cap,M,_⟩:=id hv;subst M;clear hv
 go_enter func75,ntmps75
 go_wp2_with fail
 refine J.out.mono ?_;rintro e w1 ⟨rfl,rfl⟩;cases S:nmR y with
 | true=>
   have HK:=aB (show fS y=y by unfold fS;rw [S];rfl);have E:=aB (N.out S);clear N G J
   go_wp2_with fail
   refine E.out.mono ?_;rintro e w2 ⟨v2,rfl,D,O⟩;obtain ⟨a2,Z,A,_,_⟩:=D.sl;subst A;clear E;go_wp2;go_ret;exact ⟨_,rfl,by rw [HK.out];exact D,O⟩
 | false=>
   have HK:=aB (show fS y=(quR y).1 by unfold fS;rw [S];rfl);clear N J
   go_wp2_with fail
   refine G.out.mono ?_;rintro e w2 ⟨v2,rfl,D,O⟩;obtain ⟨a2,Z,A,_,_⟩:=D.sl;subst A;clear G;go_wp2;go_ret;exact ⟨_,rfl,by rw [HK.out];exact .inl D,O⟩
end Go.Proofs.YtmfehflibkokbaaGreatDoor
namespace Go.Proofs.YtmfehflibkokbaaGreatDoor
open Go.Proofs.Tryz
open Go.RowKit
theorem aBp {σ:Type} {f g:σ->Option σ} (h:∀ s s',f s=some s'->g s=some s'):∀ (k:Nat) (s s':σ),aO f k s=some s'->aO g k s=some s'
 | 0,s,s',h0=>h0
 | k+1,s,s',h0=>by
   simp only [aO,Option.bind_eq_some_iff] at h0 ⊢;obtain ⟨x,y,A⟩:=h0;exact ⟨x,h s x y,aBp h k x s' A⟩
theorem aBn {σ:Type} (y:Nod->σ->Option σ):∀ (d A:Nat) (m:Bool) (s s':List Nod × σ),d<=A->aE y d m s=some s'->aE y A m s=some s'
 | 0,_,_,_,_,_,h=>by simp [aE] at h
 | d+1,0,_,_,_,hd,_=>by omega
 | d+1,A+1,m,([],_),s',_,h=>by simp [aE] at h
 | d+1,A+1,m,(n::R,s),s',hd,h=>by
   by_cases J:n.mem≠m
   ·simp [aE,J] at h
   ·simp only [aE,if_neg J] at h ⊢;rw [Option.bind_eq_some_iff] at h ⊢;obtain ⟨x,M,D⟩:=h;refine ⟨x,M,?_⟩
    by_cases G:5<=n.k/\d=0
    ·rw [if_pos G] at D;cases D
    ·rw [if_neg G] at D;rw [if_neg (by omega)];exact aBp (fun a b E=>aBn y d A _ a b (by omega) E) _ _ _ D
theorem yP (t:Tre) (hn:t.N.length<=1048576) (hc:∀ p∈t.N,p.k<5->p.C=0) (hb:∀ p∈t.N,-9223372036854775808<=p.C/\p.C<=9223372036854775807) (d i:Nat) (m:Bool) (R2:List Nod) (hd:d<=202) (hi:i<t.N.length) (X:aE bC d m (t.N.drop i,())=some (R2,()))
  (nv tv:Value) (w:World) (hv:eF w.heap.size w nv tv t) :
  Calls prog 76 #[.agg #[nv,tv],.int .i64 i] w fun e w'=>e=.returned (.int .i64 ((t.N.length - R2.length:Nat):Int))/\w.grownBy w' none:=by
 have hm:t.N[i].mem=m:=by
  cases d with
  | zero=>simp [aE] at X
  | succ d=>
    rw [List.drop_eq_getElem_cons hi] at X
    by_cases h:t.N[i].mem≠m
    ·simp [aE,h] at X
    ·simpa using h
 have hR:R2.length<=t.N.length:=by
  obtain ⟨P,hP⟩:=(bU bC d m).2 _ _ X;have:=congrArg List.length hP;simp at this;omega
 have he:cW t.N.length (gR t.N.length 202 m (t.N.drop i))=((t.N.length - R2.length:Nat):Int):=by
  have J:=qD t.N.length 202 m (t.N.drop i) (by simp);rw [aBn bC d 202 m _ _ hd X] at J;cases hx:gR t.N.length 202 m (t.N.drop i) with
  | none=>rw [hx] at J;simp at J
  | some R=>rw [hx] at J;simp at J;subst J;simp only [cW];omega
 obtain ⟨M,O⟩:=id hv;obtain ⟨na,A,a9,_⟩:=id M;obtain ⟨ta,D,b2,_⟩:=id O;obtain ⟨b,off,b3,lv,kv,xv,uv,d3,b1,c8,hp⟩:=M.at i hi;have HC:Hid (∀ W:World,w.grownBy W none->_):=fun W (g:w.grownBy W none)=>aBB t hn hc hb 201 (by omega) i m nv tv W (by omega) ⟨(M.K g).wide g.size,(O.K g).wide g.size⟩;have z2:=hp.mem;rw [hm] at z2;have HE:=aB he;subst b1;subst b2;cases a9;clear M O hv X he hp hm hc hb;have a5:=(World.grownBy_alloc w (Obj.cells #[.slice (some ⟨b,off,none⟩) t.N.length A,.slice ta t.tail.length D] 26) none).cell z2 (by simp)
 go_enter func76,ntmps76
 obtain ⟨WA,S⟩:∃ WA,WA=w.alloc (Obj.cells #[.slice (some ⟨b,off,none⟩) t.N.length A,.slice ta t.tail.length D] 26):=⟨_,rfl⟩;obtain ⟨I,U⟩:∃ I:World->Prop,I=(fun W:World=>W.cell? ⟨w.heap.size,0,none⟩=some (.slice (some ⟨b,off,none⟩) t.N.length A)/\W.cell? ⟨w.heap.size,1,none⟩=some (.slice ta t.tail.length D)/\W.cell? ⟨b,off+i*8+2,none⟩=some (.bool m)):=⟨_,rfl⟩;have y:I WA.drew:=(by rw [U,S];exact ⟨by simp [go_sem],by simp [go_sem],a5⟩);have gA:w.grownBy WA.drew none:=(by rw [S];exact aA gWA ⟨rfl,rfl,rfl,Nat.le_refl _,fun _ _ _=>rfl⟩);have Z:=aB (HC.out _ gA);go_wp2;rw [<- S];refine aZ I (fun _=>false) (by kernel_rfl) ?_
 show fJ _ _ _ _ _ _ 10 (Array.replicate 10 false) _ _
 refine bK (i:=0) (.agg #[.slice (some ⟨b,off,none⟩) t.N.length A,.slice ta t.tail.length D]) rfl y (bB rfl (fun W E=>by rw [U] at E;obtain ⟨J,h2,h3⟩:=E;go_simp)) ?_;refine bK (i:=1) (.int .i64 i) rfl y (bB rfl (fun W E=>by go_simp)) ?_;refine bK (i:=2) (.pointer (some ⟨w.heap.size,0,none⟩)) rfl y (bB rfl (fun W E=>by go_simp)) ?_;refine bK (i:=3) (.slice (some ⟨b,off,none⟩) t.N.length A) rfl y (bB rfl (fun W E=>by rw [U] at E;obtain ⟨J,h2,h3⟩:=E;go_simp)) ?_;refine bK (i:=4) (.int .i64 i) rfl y (bB rfl (fun W E=>by go_simp)) ?_;refine bK (i:=5) (.pointer (some ⟨b,off+i*8,none⟩)) rfl y (bB rfl (fun W E=>by go_simp)) ?_;refine bK (i:=6) (.pointer (some ⟨b,off+i*8+2,none⟩)) rfl y (bB rfl (fun W E=>by go_simp)) ?_;refine bK (i:=7) (.bool m) rfl y (bB rfl (fun W E=>by rw [U] at E;obtain ⟨J,h2,h3⟩:=E;go_simp)) ?_;generalize hG:Act.put _ _ _=A0;simp [Act.put] at hG;subst hG;refine aD (i:=8) (by kernel_rfl) (dY rfl rfl (by go_simp) Z.out ?_);rintro e w1 ⟨rfl,Y⟩;have a4:I w1:=(by rw [U] at y ⊢;exact ⟨Y.cell y.1 (by simp),Y.cell y.2.1 (by simp),Y.cell y.2.2 (by simp)⟩);refine ⟨_,rfl,.inr a4,?_⟩;have hE:=HE.out;rw [show 201+1=202 by rfl,hE];have G:=aB (aA gA Y);clear HC Z Y hE z2 a5;refine aD (i:=9) (by kernel_rfl) (aF (w':=w1) (v:=.int .i64 ((t.N.length - R2.length:Nat):Int)) rfl rfl (by go_simp) ⟨.inr a4,?_⟩);refine bL (by kernel_rfl) ?_ _;subst U;go_wp2;go_ret;exact ⟨rfl,G.out⟩
structure Ck (w:World) (h:Nat) (v:Value) (c r:Int):Prop where
 n:w.cell? ⟨h,0,none⟩=some v
 c:w.cell? ⟨h,1,none⟩=some (.int .i64 c)
 r:w.cell? ⟨h,2,none⟩=some (.int .i64 r)
 fn:w.frozen? ⟨h,0,none⟩=false
 fc:w.frozen? ⟨h,1,none⟩=false
 fr:w.frozen? ⟨h,2,none⟩=false
theorem gJ {W y:World} {a:Addr} {v:Value} (A:W.grownBy y none) (h:W.cell? a=some v) (D:W.frozen? a=false):y.cell? a=some v/\y.frozen? a=false:=
 ⟨A.cell h (by simp),(World.frozen?_of_block (A.block a.block (World.block_lt_of_cell? W a h) (by simp))).trans D⟩
theorem kL (w:World) (a:Addr) (u:Value):w.grownBy (w.setCell a u) (some a.block):=
 ⟨rfl,rfl,rfl,by simp,fun i _ h=>Below.heap_setCell _ _ _ _ (fun e=>h (by rw [e]))⟩
theorem eB {a b:World} (h:a.grownBy b none) (r:Option Nat):a.grownBy b r:=⟨h.os,h.tape,h.output,h.size,fun k y _=>h.block k y (by simp)⟩
theorem aQ {a b c:World} {r:Option Nat} (h:a.grownBy b r) (k:b.grownBy c r):a.grownBy c r:=
 ⟨k.os.trans h.os,k.tape.trans h.tape,k.output.trans h.output,Nat.le_trans h.size k.size,fun i A y=>(k.block i (Nat.lt_of_lt_of_le A h.size) y).trans (h.block i A y)⟩
theorem Ck.lt {w:World} {h:Nat} {v:Value} {c r:Int} (k:Ck w h v c r):h<w.heap.size:=World.block_lt_of_cell? w _ k.n
theorem Ck.K {w w':World} {h:Nat} {v:Value} {c r:Int} (k:Ck w h v c r) (g:w.grownBy w' none):Ck w' h v c r:=
 ⟨(gJ g k.n k.fn).1,(gJ g k.c k.fc).1,(gJ g k.r k.fr).1,(gJ g k.n k.fn).2,(gJ g k.c k.fc).2,(gJ g k.r k.fr).2⟩
theorem Ck.setR {w:World} {h:Nat} {v:Value} {c r:Int} (k:Ck w h v c r) (y:Int):Ck (w.setCell ⟨h,2,none⟩ (.int .i64 y)) h v c y:=by
 have a1:=k.n;have a2:=k.c;have a3:=k.r;have D:=k.fn;have A:=k.fc;have E:=k.fr;exact ⟨by simp [go_sem,a1],by simp [go_sem,a2],by simp [go_sem,a3],by simp [go_sem,D],by simp [go_sem,A],by simp [go_sem,E]⟩
theorem Ck.setC {w:World} {h:Nat} {v:Value} {c r:Int} (k:Ck w h v c r) (y:Int):Ck (w.setCell ⟨h,1,none⟩ (.int .i64 y)) h v y r:=by
 have a1:=k.n;have a2:=k.c;have a3:=k.r;have D:=k.fn;have A:=k.fc;have E:=k.fr;exact ⟨by simp [go_sem,a1],by simp [go_sem,a2],by simp [go_sem,a3],by simp [go_sem,D],by simp [go_sem,A],by simp [go_sem,E]⟩
theorem Ck.setN {w:World} {h:Nat} {v:Value} {c r:Int} (k:Ck w h v c r) (y:Value):Ck (w.setCell ⟨h,0,none⟩ y) h y c r:=by
 have a1:=k.n;have a2:=k.c;have a3:=k.r;have D:=k.fn;have A:=k.fc;have E:=k.fr;exact ⟨by simp [go_sem,a1],by simp [go_sem,a2],by simp [go_sem,a3],by simp [go_sem,D],by simp [go_sem,A],by simp [go_sem,E]⟩
abbrev yF (w:World) (h:Nat) (v:Value) (c r:Int) (w':World):Prop:=Ck w' h v c r/\w.grownBy w' (some h)
theorem oY (h:Nat) (v:Value) (a:Option Addr) (n cap:Nat) (c r:Int) (w:World) (y:Ck w h v c r) (D:n<=1048576) (E : -1048576000<=r/\r<=1048576) :
  Calls prog 90 #[.pointer (some ⟨h,0,none⟩),.slice a n cap] w fun e w'=>e=.returned (.bool (decide ((n:Int)<=r)))/\yF w h v c (r - n) w':=by
 have a3:=y.r;have G:=y.fr;have A:Hid (yF w h v c (r - n) (w.setCell ⟨h,2,none⟩ (.int .i64 (r - n)))):=⟨y.setR _,kL w ⟨h,2,none⟩ _⟩;clear y
 go_enter func90,ntmps90
 go_wp2;go_ret;exact ⟨rfl,A.out⟩
theorem wJ {α:Type} (f:α->Bool) (y:List α) (k:Nat) (A:k<y.length) (h:(y.take k).all f=true) (D:f y[k]=true):(y.take (k+1)).all f=true:=by
 rw [List.take_add_one,List.getElem?_eq_getElem A,List.all_append,h];simp [D]
theorem zH {α:Type} (f:α->Bool) (h:List α) (k:Nat) (y:k<h.length) (A:f h[k]=false):h.all f=false:=by
 rw [List.all_eq_false];exact ⟨h[k],List.getElem_mem y,by rw [A];simp⟩
theorem sH (h:Nat) (v Y:Value) (zs:List Int) (c r:Int) (w:World) (N:Ck w h v c r) (B:Nat) (hv:RdI B w Y zs) (hB:B<=h) (hn:zs.length<=1048576) (hr:0<=r/\r<=1048576) :
  Calls prog 122 #[.pointer (some ⟨h,0,none⟩),Y] w fun e w'=>e=.returned (.bool (decide ((zs.length:Int)<=r)&&zs.all bZ))/\yF w h v c (r - zs.length) w':=by
 obtain ⟨a,cap,a7,D⟩:=id hv;have a3:=N.r;have b3:=N.fr;have X:Hid (yF w h v c (r - zs.length) (w.setCell ⟨h,2,none⟩ (.int .i64 (r - zs.length)))):=⟨N.setR _,kL w ⟨h,2,none⟩ _⟩;have HV:Hid (RdI B (w.setCell ⟨h,2,none⟩ (.int .i64 (r - zs.length))) Y zs):=hv.beside (kL w ⟨h,2,none⟩ _) (fun k e=>by cases e;exact hB);subst a7;clear N hv D
 by_cases hc:(zs.length:Int)<=r
 ·have Z:¬ r - (zs.length:Int)<0:=(by omega);rw [decide_eq_true hc,Bool.true_and]
  go_enter func122,ntmps122
  go_wp2;obtain ⟨W1,G⟩:∃ W1,W1=w.setCell ⟨h,2,none⟩ (.int .i64 (r - zs.length)):=⟨_,rfl⟩;rw [<- G] at X HV ⊢;have HW:=aB G;clear G a3 b3
  go_loopw [23] (fun i wr=>∃ k:Nat,k<=zs.length/\i=.int .i64 k/\Hid ((zs.take k).all bZ=true)/\W1.grownBy wr none) (fun i _=>zs.length - (intOf i).toNat)
  case atStart=>exact ⟨0,Nat.zero_le _,rfl,by simp [Hid],World.grownBy.refl _ _⟩
  case round=>
   obtain ⟨k,N,rfl,HA,A⟩:=hrel;have S:Hid (yF w h v c (r - zs.length) wr):=⟨X.out.1.K A,aQ X.out.2 (eB A _)⟩;have HG:=aB A
   by_cases y:k<zs.length
   ·obtain ⟨a',b0,E,D⟩:=HV.out.K A;obtain ⟨b,off,a9,b8,O⟩:=D (fun e=>by rw [e] at y;simp at y);have a5:a=some ⟨b,off,none⟩:=(by simp only [Value.slice.injEq] at E;rw [E.1];exact a9);subst a5;have a6:=O k y;have b6:(k:Int)<zs.length:=(by omega);have J:zs[k]?.getD 0=zs[k]:=(by simp [y]);rw [J] at a6;have U:=aB (fun w=>eT zs[k] w);clear A E D O;cases M:bZ zs[k] with
    | true=>
      have HN:=aB (wJ bZ zs k y HA.out M);rw [M] at U;clear M J;generalize zs[k]=p at *
      go_wp2_with fail
      refine (U.out _).mono ?_;rintro e w2 ⟨rfl,rfl⟩;go_wp2
      go_roundw
      case rel=>exact ⟨k+1,by omega,by go_num,HN,HG.out⟩
      case measure=>simp [intOf];omega
    | false=>
      have HF:=aB (zH bZ zs k y M);rw [M] at U;clear M J;generalize zs[k]=p at *
      go_wp2_with fail
      refine (U.out _).mono ?_;rintro e w2 ⟨rfl,rfl⟩;go_wp2;go_ret;exact ⟨by rw [HF.out];rfl,S.out⟩
   ·have HF:Hid (zs.all bZ=true):=by
     have:=HA.out;rw [show k=zs.length by omega,List.take_length] at this;exact this
    clear A;go_wp2;go_ret;exact ⟨by rw [HF.out];rfl,S.out⟩
 ·have Z:r - (zs.length:Int)<0:=(by omega);rw [decide_eq_false hc,Bool.false_and]
  go_enter func122,ntmps122
  go_wp2;go_ret;exact ⟨rfl,X.out⟩
end Go.Proofs.YtmfehflibkokbaaGreatDoor
namespace Go.Proofs.YtmfehflibkokbaaGreatDoor
open Go.Proofs.Tryz
open Go.RowKit Go.Shelf
def aK2:Go.Shelf.Ren:=⟨fun | 186=>126 | 185=>148 | 187=>162 | 115=>163 | 253=>164 | 224=>165 | 254=>166 | 255=>180 | 291=>181 | n=>n,fun | 37=>22 | 4=>4 | 3=>3 | 0=>0 | 5=>5 | 46=>228 | 9=>9 | 146=>235 | 51=>234 | n=>n,fun | 1=>1 | n=>n⟩
theorem aFN:Go.Proofs.Lays.n186 prog aK2:={
 mixed:=by kernel_rfl
 f115:=func163.trans (congrArg some (by kernel_rfl))
 f185:=func148.trans (congrArg some (by kernel_rfl))
 f186:=func126.trans (congrArg some (by kernel_rfl))
 f187:=func162.trans (congrArg some (by kernel_rfl))
 f224:=func165.trans (congrArg some (by kernel_rfl))
 f253:=func164.trans (congrArg some (by kernel_rfl))
 f254:=func166.trans (congrArg some (by kernel_rfl))
 f255:=func180.trans (congrArg some (by kernel_rfl))
 f291:=func181.trans (congrArg some (by kernel_rfl))
 t0:=underlying0
 a0:=Tryz.isAgg0
 z0:=Tryz.sizeOf0
 v0:=Tryz.zeroValue0
 t3:=underlying3
 a3:=Tryz.isAgg3
 z3:=Tryz.sizeOf3
 v3:=Tryz.zeroValue3
 t4:=underlying4
 a4:=Tryz.isAgg4
 z4:=Tryz.sizeOf4
 v4:=Tryz.zeroValue4
 t5:=underlying5
 a5:=Tryz.isAgg5
 z5:=Tryz.sizeOf5
 v5:=Tryz.zeroValue5
 t9:=underlying9
 a9:=Tryz.isAgg9
 z9:=Tryz.sizeOf9
 v9:=Tryz.zeroValue9
 t37:=underlying22
 a37:=Tryz.isAgg22
 z37:=Tryz.sizeOf22
 v37:=Tryz.zeroValue22
 t46:=underlying228
 a46:=Tryz.isAgg228
 z46:=Tryz.sizeOf228
 v46:=Tryz.zeroValue228
 t51:=underlying234
 a51:=Tryz.isAgg234
 z51:=Tryz.sizeOf234
 v51:=Tryz.zeroValue234
 t146:=underlying235
 a146:=Tryz.isAgg235
 z146:=Tryz.sizeOf235
 v146:=Tryz.zeroValue235
 g1:=by kernel_rfl }
def iM:List Int->Bool
 | a::b::l=>(decide (a=42)&&decide (b=47))||iM (b::l)
 | _=>false
theorem aKH {z:Int} (y:0<=z/\z<=255) (k:Nat) (A:k<=255):(UInt8.ofNat k==z.toNat.toUInt8)=decide (z=k):=by
 rw [Bool.eq_iff_iff];simp only [beq_iff_eq,decide_eq_true_eq];constructor
 ·intro h;have:=congrArg UInt8.toNat h;simp only [UInt8.toNat_ofNat',Nat.toUInt8] at this;omega
 ·intro h;subst h;rfl
theorem aD2:∀ (zs:List Int),Bys zs->(0<=Lib.index (Lib.bytesOf zs) [42,47] ↔ iM zs=true)
 | [],_=>by decide
 | [z],_=>by
   have:Lib.index (Lib.bytesOf [z]) [42,47] = -1:=by
    simp [Lib.bytesOf,Lib.index,List.isPrefixOf]
   rw [this];simp [iM]
 | a::b::l,h=>by
   have ih:=aD2 (b::l) (fun z D=>h z (by simp [D]));have M:=aKH (h a (by simp)) 42 (by omega);have N:=aKH (h b (by simp)) 47 (by omega);have J:=Lib.index_ge (Lib.bytesOf (b::l)) [42,47];have E:Lib.bytesOf (a::b::l)=a.toNat.toUInt8::Lib.bytesOf (b::l):=rfl
   have G:([42,47]:List UInt8).isPrefixOf (a.toNat.toUInt8::Lib.bytesOf (b::l))=(decide (a=42)&&decide (b=47)):=by
    show ((UInt8.ofNat 42==a.toNat.toUInt8)&&((UInt8.ofNat 47==b.toNat.toUInt8)&&true))=_
    rw [M,N,Bool.and_true];rfl
   rw [E];unfold Lib.index iM;rw [G];cases O:(decide (a=42)&&decide (b=47)) with
   | true=>simp
   | false=>
     rw [Bool.false_or,<- ih]
     by_cases A:Lib.index (Lib.bytesOf (b::l)) [42,47] = -1
     ·simp [A]
     ·have y:(Lib.index (Lib.bytesOf (b::l)) [42,47] == -1)=false:=(by simpa using A);simp only [Bool.false_eq_true,if_false,y];omega
theorem aDy (zs:List Int) (h:Bys zs):Lib.contains (Lib.bytesOf zs) (Lib.bytesOf [42,47])=iM zs:=by
 have:=aD2 zs h;unfold Lib.contains
 show decide (0<=Lib.index (Lib.bytesOf zs) [42,47])=_
 rw [Bool.eq_iff_iff,decide_eq_true_eq];exact this
theorem aBP (v:Value) (zs:List Int) (E:Nat) (m:Int) (w:World) (hv:RdB w.heap.size w v zs) (hs:Sl v zs.length) (G:Bys zs) (hn:zs.length<=1048576)
  (Z:w.cell? ⟨E,0,none⟩=some (.int .u8 42)) (h1:w.cell? ⟨E,1,none⟩=some (.int .u8 47)) (hm:w.cell? ⟨1,0,none⟩=some (.int .i64 m)) (O:Nat) :
  Calls prog 126 #[v,.slice (some ⟨E,0,none⟩) 2 O] w fun e w'=>e=.returned (.bool (iM zs))/\∃ q,w'=w.drewN q:=by
 obtain ⟨a,cap,rfl,N⟩:=id hv;obtain ⟨a',S,e,D,U⟩:=hs;simp only [Value.slice.injEq] at e;obtain ⟨rfl,_,rfl⟩:=e
 by_cases J:zs.length<2
 ·refine (Any.bytes_Contains_longer aFN a (some ⟨E,0,none⟩) zs.length cap 2 O w (by omega) J (by omega)).mono ?_;rintro e w' ⟨rfl,rfl⟩;refine ⟨?_,0,rfl⟩
  have:iM zs=false:=by
   match zs,J with
   | [],_=>rfl
   | [z],_=>rfl
  rw [this]
 ·obtain ⟨b,off,rfl,hb,Y⟩:=N (fun e=>by rw [e] at J;simp at J);rw [<- aDy zs G];refine (Any.bytes_Contains_at aFN ⟨b,off,none⟩ ⟨E,0,none⟩ zs.length cap 2 O zs [42,47] m w rfl rfl (fun x X=>by have:=G x X;omega) (fun y A=>?_) (fun i M=>?_) (fun i M=>?_) D (by omega) (by omega) hm).mono fun e w' h=>h
  ·simp at A;rcases A with rfl | rfl<;>omega
  ·rw [Addr.add_lit,Y i M];simp [List.getD]
  ·rw [Addr.add_lit]
   match i,M with
   | 0,_=>simpa using Z
   | 1,_=>simpa using h1
end Go.Proofs.YtmfehflibkokbaaGreatDoor
namespace Go.Proofs.YtmfehflibkokbaaGreatDoor
open Go.Proofs.Tryz
open Go.RowKit Go.Shelf
attribute [local go_sem] Oper.semAt_some
theorem aBS (p:Int) (w:World):Calls prog 125 #[.int .i32 p] w fun e w'=>e=.returned (.bool (!lnE p))/\w=w':=by
 by_cases A:p=10
 ·subst A
  go_enter func125,ntmps125
  go_wp2;go_ret;exact ⟨rfl,rfl⟩
 ·have M:(p != 10)=true:=by simpa using A
  by_cases D:p=13
  ·subst D
   go_enter func125,ntmps125
   go_wp2;go_ret;exact ⟨rfl,rfl⟩
  ·have N:(p != 13)=true:=by simpa using D
   by_cases y:p=8232
   ·subst y
    go_enter func125,ntmps125
    go_wp2;go_ret;exact ⟨rfl,rfl⟩
   ·have G:(p != 8232)=true:=by simpa using y
    by_cases h:p=8233
    ·subst h
     go_enter func125,ntmps125
     go_wp2;go_ret;exact ⟨rfl,rfl⟩
    ·have E:Hid (lnE p=false):=(by unfold Hid lnE;simp [A,D,y,h]);have J:(p != 8233)=true:=by simpa using h
     go_enter func125,ntmps125
     go_wp2;go_ret;exact ⟨by rw [E.out];first | rfl | simp [h],rfl⟩
def okP (b:Bool) (p:Int):Bool:=!decide (p = -1)&&(!lnE p||(b&&decide (p=10)))
def bE (c:Cm):Bool:=(jZ c.t).all (fun x=>okP c.b x.2)&&(!c.b || !iM c.t)
theorem aB7 (n:Nat) (hn:3<=n) (v:Value) (c:Cm) (m:Int) (w:World) (hv:RdB w.heap.size w v c.t) (c7:Bys c.t) (hm:c.t.length<=1048576) (X:Sl v c.t.length) (hT:Tab w) (hM:w.cell? ⟨1,0,none⟩=some (.int .i64 m)) :
  CallsIn Fence.wide n prog 91 #[.agg #[.bool c.b,v]] w fun e w'=>e=.returned (.bool (bE c))/\Below w.heap.size w w':=by
 have h1:1<=n:=(by omega);have c9:=X;obtain ⟨a,cap,rfl,g7,g6⟩:=c9;have b1:=hT.pos;refine callsIn_of_wp_marks func91 rfl trivial ?_ rfl;simp only [ntmps91,List.size_toArray,List.length_cons,List.length_nil,Nat.reduceAdd,Nat.reduceSub,Array.replicate_succ,Array.replicate_zero,List.push_toArray,List.append_toArray,List.nil_append,List.cons_append]
 gi_wp2_with fail
 refine ⟨trivial,(wT (n - 1) _ _ _ _).mono ?_⟩;rintro e w' ⟨rfl,rfl⟩
 gi_wp2_with fail
 obtain ⟨W0,J⟩:∃ W0,W0=((w.alloc (.cells #[.bool c.b,.slice a c.t.length cap] 128)).alloc (.cells #[.bool false] 4)).alloc (.cells #[.slice a c.t.length cap] 22):=⟨_,rfl⟩;have b7:Below w.heap.size w W0:=(by rw [J];exact (((Below.refl _ w).alloc (Nat.le_refl _) _).alloc (by simp) _).alloc (by simp;omega) _);have d0:W0.cell? ⟨w.heap.size,0,none⟩=some (.bool c.b):=(by rw [J];simp [go_sem]);have d1:W0.cell? ⟨w.heap.size,1,none⟩=some (.slice a c.t.length cap):=(by rw [J];simp [go_sem]);have d2:W0.cell? ⟨w.heap.size+1,0,none⟩=some (.bool false):=(by rw [J];simp [go_sem]);have d3:W0.frozen? ⟨w.heap.size+1,0,none⟩=false:=by rw [J];simp [go_sem]
 have bx:Boxed W0 (w.heap.size+1+1) 22 (.slice a c.t.length cap):=by
  have:=Boxed.new ((w.alloc (.cells #[.bool c.b,.slice a c.t.length cap] 128)).alloc (.cells #[.bool false] 4)) 22 (.slice a c.t.length cap);simp only [World.size_alloc] at this;rw [J];exact this
 have g0:W0.heap.size=w.heap.size+3:=(by rw [J];simp);rw [<- J];clear J
 refine wpIn_rangeFunc_ownF rfl h1 (gf:=146) (lb:=#[.pointer (some ⟨w.heap.size+1+1,0,none⟩)]) rfl trivial (enters_of func146 (by kernel_rfl) rfl)
  (qV (n - 1) (by omega) (w.heap.size+1+1) w.heap.size _ c.t _ c7 (by omega) X bx (by omega) (hv.below b7) (hT.below b7 b1) b1) aKE (aKF (by omega) (by omega)) (Below.refl _ _) (fun _=>rfl)
  (fun (M:List (Int × Int)) W=>((∀ x∈M,okP c.b x.2=true)/\W.cell? ⟨w.heap.size,0,none⟩=some (.bool c.b)/\W.cell? ⟨w.heap.size,1,none⟩=some (.slice a c.t.length cap)/\W.cell? ⟨w.heap.size+1,0,none⟩=some (.bool false)/\W.frozen? ⟨w.heap.size+1,0,none⟩=false)/\Below w.heap.size w W)
  (fun k (M:List (Int × Int)) W=>(k=.ret/\(∃ (q:List (Int × Int)) (x:Int × Int),M=q++[x]/\okP c.b x.2=false)/\W.cell? ⟨w.heap.size+1,0,none⟩=some (.bool false))/\Below w.heap.size w W)
  (OwnFrom.and (Own.from (fun s A B d9 X hg hr=>⟨X.1,cell_kept X.2.1 hg hr,cell_kept X.2.2.1 hg hr,cell_kept X.2.2.2.1 hg hr,(frozen_kept X.2.2.2.1 hg hr).trans X.2.2.2.2⟩) _) (ownFrom_below (Nat.le_refl _) (by omega)))
  (fun c=>OwnFrom.and (Own.from (fun s A B d9 X hg hr=>⟨X.1,X.2.1,cell_kept X.2.2 hg hr⟩) _) (ownFrom_below (Nat.le_refl _) (by omega)))
  ⟨⟨by simp,d0,d1,d2,d3⟩,b7⟩
  (fun x=>{ tmps:=#[.agg #[.bool c.b,.slice a c.t.length cap],.pointer (some ⟨w.heap.size,0,none⟩),.pointer (some ⟨w.heap.size+1,0,none⟩),undef,.int .i32 x.2,.pointer (some ⟨w.heap.size,1,none⟩),.slice a c.t.length cap,.func (.func 146) #[] #[.pointer (some ⟨w.heap.size+1+1,0,none⟩)],.int .i64 x.1,.int .i32 x.2,undef,undef,undef,undef,undef,undef,undef,undef,undef,undef,undef,undef,undef,undef,undef,undef,undef,undef,undef,undef,undef,undef,undef,undef,undef,undef,undef],defers:=[] }) ?assign ?body ?done ?stop
 case assign=>
  intro l x W K hK
  gi_wp2
  exact hK
 case body=>
  rintro l M x W ⟨⟨N,S,b5,E,b0⟩,Y⟩ h0;have HL:=aB (fun w=>aBS x.2 w);have b2:=S
  have U:okP c.b x.2=true->Hid (∀ y∈M++[x],okP c.b y.2=true):=fun h y hy=>by
   rcases List.mem_append.1 hy with h' | h'
   ·exact N y h'
   ·simp at h';subst h';exact h
  by_cases hx:x.2 = -1
  ·have HX:Hid (okP c.b x.2=false):=(by unfold Hid okP;simp [hx]);have f7:(x.2 == -1)=true:=(by simp [hx]);clear U hx
   gi_wp2
   refine ⟨trivial,?_⟩
   gi_wp2
   exact ⟨KeepsOthers.setCell _ _ _,⟨rfl,⟨M,x,rfl,HX.out⟩,World.cell?_setCell_same' _ _ _ (by rw [E];rfl)⟩,Y.setCell (p:=⟨w.heap.size+1,0,none⟩) (by simp) _⟩
  ·have f7:(x.2 == -1)=false:=(by simpa using hx);cases hl:lnE x.2 with
   | false=>
     rw [hl] at HL;have HY:=U (by unfold okP;rw [hl];simp [hx]);clear U hx hl
     gi_wp2_with fail
     refine ⟨trivial,fun h=>(by cases h),(CallsIn.inRound l (callsIn_wide.2 (HL.out _))).mono ?_⟩;rintro e W1 ⟨rfl,rfl⟩
     gi_wp2
     exact ⟨KeepsOthers.refl _,⟨Below.refl _ _,rfl⟩,⟨HY.out,b2,b5,E,b0⟩,Y⟩
   | true=>
     rw [hl] at HL
     by_cases Z:c.b=true
     ·by_cases a4:x.2=10
      ·have HY:=U (by unfold okP;rw [Z];simp [a4]);have c6:(x.2==10)=true:=(by simp [a4]);rw [Z] at S;clear U hx hl Z a4
       gi_wp2_with fail
       refine ⟨trivial,fun h=>(by cases h),(CallsIn.inRound l (callsIn_wide.2 (HL.out _))).mono ?_⟩;rintro e W1 ⟨rfl,rfl⟩
       gi_wp2
       exact ⟨KeepsOthers.refl _,⟨Below.refl _ _,rfl⟩,⟨HY.out,b2,b5,E,b0⟩,Y⟩
      ·have HX:Hid (okP c.b x.2=false):=(by unfold Hid okP;rw [hl];simp [a4]);have c6:(x.2==10)=false:=(by simpa using a4);rw [Z] at S;clear U hx hl Z a4
       gi_wp2_with fail
       refine ⟨trivial,fun h=>(by cases h),(CallsIn.inRound l (callsIn_wide.2 (HL.out _))).mono ?_⟩;rintro e W1 ⟨rfl,rfl⟩
       gi_wp2
       exact ⟨KeepsOthers.setCell _ _ _,⟨rfl,⟨M,x,rfl,HX.out⟩,World.cell?_setCell_same' _ _ _ (by rw [E];rfl)⟩,Y.setCell (p:=⟨w.heap.size+1,0,none⟩) (by simp) _⟩
     ·have b6:c.b=false:=(by simpa using Z);have HX:Hid (okP c.b x.2=false):=(by unfold Hid okP;rw [hl,b6];simp);rw [b6] at S;clear U hx hl Z b6
      gi_wp2_with fail
      refine ⟨trivial,fun h=>(by cases h),(CallsIn.inRound l (callsIn_wide.2 (HL.out _))).mono ?_⟩;rintro e W1 ⟨rfl,rfl⟩
      gi_wp2
      exact ⟨KeepsOthers.setCell _ _ _,⟨rfl,⟨M,x,rfl,HX.out⟩,World.cell?_setCell_same' _ _ _ (by rw [E];rfl)⟩,Y.setCell (p:=⟨w.heap.size+1,0,none⟩) (by simp) _⟩
 case done=>
  rintro D ys W hD rfl ⟨⟨N,S,b5,E,b0⟩,Y⟩ hK;have G:(jZ c.t).all (fun x=>okP c.b x.2)=true:=List.all_eq_true.2 N
  by_cases Z:c.b=false
  ·have HW:Hid (bE c=true):=(by unfold Hid bE;rw [G,Z];rfl);rw [Z] at S;clear N G Z
   gi_wp2
   refine ⟨trivial,?_⟩
   gi_wp2
   have O:=(KeepsOthers.setCell W ⟨w.heap.size+1,0,none⟩ (.bool true)).same D _ hK rfl;refine ⟨by simp,.inl ⟨_,_,rfl,run_takeDeferred O,?_⟩⟩;have a7:=cell_kept (World.cell?_setCell_same' W ⟨w.heap.size+1,0,none⟩ (.bool true) (by rw [E];rfl)) (grownBy_putObj' _ D (.deferred none)) (fun r e=>by cases e;exact ⟨_,O,rfl⟩);refine ⟨.bool true,?_,by rw [HW.out],(Y.setCell (p:=⟨w.heap.size+1,0,none⟩) (by simp) _).trans (belowK_b (w:=w) (Nat.le_refl _) _ D _ _ (by omega) O rfl rfl)⟩;simp [results,Tryz.f91,go_sem,a7]
  ·have b4:c.b=true:=(by simpa using Z);have HW:Hid (bE c = !iM c.t):=(by unfold Hid bE;rw [G,b4];rfl);rw [b4] at S;clear N G Z b4;have f3:=Lib.run_convert_bytes_const (P:=prog) W 22 5 #[.int .u8 42,.int .u8 47] 2 2 underlying22 underlying5;have gW:W.grownBy (W.alloc (.cells #[.int .u8 42,.int .u8 47] 5 (2,3))) none:=gWA;have c5:=Y.size
   have a6:(W.alloc (.cells #[.int .u8 42,.int .u8 47] 5 (2,3))).heap[W.heap.size]?=some (.cells #[.int .u8 42,.int .u8 47] 5 (2,3)):=by
    show (W.heap.push _)[W.heap.size]?=_;simp
   have d8:=aB (aBP (.slice a c.t.length cap) c.t W.heap.size m (W.alloc (.cells #[.int .u8 42,.int .u8 47] 5 (2,3))) (((hv.below Y).wideC c5).K gW |>.wideC gW.size) X c7 hm ((cell_of_row _ _ 0 #[.int .u8 42,.int .u8 47] 5 (2,3) a6).trans rfl) ((cell_of_row _ _ 1 #[.int .u8 42,.int .u8 47] 5 (2,3) a6).trans rfl)
    (gW.cell ((World.cell?_of_block (Y.block 1 (World.block_lt_of_cell? w _ hM))).trans hM) (by simp)) 2)
   have d6:=(KeepsOthers.alloc W (.cells #[.int .u8 42,.int .u8 47] 5 (2,3))).same D _ hK rfl;have f5:=gW.cell E (by simp);have h5:=(gJ gW E b0).2;have c3:Hid (Below w.heap.size w (W.alloc (.cells #[.int .u8 42,.int .u8 47] 5 (2,3)))):=Y.alloc c5 _;clear gW a6
   gi_wp2_with fail
   refine ⟨trivial,(callsIn_wide.2 d8.out).mono ?_⟩;rintro e W2 ⟨rfl,q,rfl⟩;have f6:((W.alloc (.cells #[.int .u8 42,.int .u8 47] 5 (2,3))).drewN q).cell? ⟨w.heap.size+1,0,none⟩=some (.bool false):=f5;have d5:((W.alloc (.cells #[.int .u8 42,.int .u8 47] 5 (2,3))).drewN q).heap[D]?=some (.deferred (some [])):=d6;have d7:Hid (Below w.heap.size w ((W.alloc (.cells #[.int .u8 42,.int .u8 47] 5 (2,3))).drewN q)):=c3.out.grown (cO (World.grownBy.refl _ none) q) c3.out.size (fun k e=>by cases e);generalize iM c.t=b at *
   gi_wp2
   have O:=(KeepsOthers.setCell ((W.alloc (.cells #[.int .u8 42,.int .u8 47] 5 (2,3))).drewN q) ⟨w.heap.size+1,0,none⟩ (.bool (!b))).same D _ d5 rfl;refine ⟨by simp,.inl ⟨_,_,rfl,run_takeDeferred O,?_⟩⟩;have a7:=cell_kept (World.cell?_setCell_same' ((W.alloc (.cells #[.int .u8 42,.int .u8 47] 5 (2,3))).drewN q) ⟨w.heap.size+1,0,none⟩ (.bool (!b)) (by rw [f6];rfl)) (grownBy_putObj' _ D (.deferred none)) (fun r e=>by cases e;exact ⟨_,O,rfl⟩);refine ⟨.bool (!b),?_,by rw [HW.out],(d7.out.setCell (p:=⟨w.heap.size+1,0,none⟩) (by simp) _).trans (belowK_b (w:=w) (Nat.le_refl _) _ D _ _ (by omega) O rfl rfl)⟩;simp [results,Tryz.f91,go_sem,a7]
 case stop=>
  rintro D k M W hD c4 ⟨⟨rfl,⟨q,x,hq,hx⟩,E⟩,Y⟩ hK
  have HW:Hid (bE c=false):=by
   unfold Hid bE;rw [Bool.and_eq_false_iff];left;rw [List.all_eq_false];refine ⟨x,?_,by rw [hx];simp⟩;obtain ⟨t,ht⟩:=c4;rw [<- ht,hq];simp
  gi_wp2
  refine ⟨by simp,.inl ⟨_,_,rfl,run_takeDeferred hK,?_⟩⟩;have a7:=cell_kept E (grownBy_putObj' _ D (.deferred none)) (fun r e=>by cases e;exact ⟨_,hK,rfl⟩);refine ⟨.bool false,?_,by rw [HW.out],Y.trans (belowK_b (w:=w) (Nat.le_refl _) W D _ _ (by omega) hK rfl rfl)⟩;simp [results,Tryz.f91,go_sem,a7]
theorem aAD (v:Value) (c:Cm) (m:Int) (w:World) (hv:RdB w.heap.size w v c.t) (y:Bys c.t) (G:c.t.length<=1048576) (D:Sl v c.t.length) (A:Tab w) (E:w.cell? ⟨1,0,none⟩=some (.int .i64 m)) :
  Calls prog 91 #[.agg #[.bool c.b,v]] w fun e w'=>e=.returned (.bool (bE c))/\w.grownBy w' none:=
 (callsIn_wide.1 (aB7 3 (Nat.le_refl _) v c m w hv y G D A E)).mono fun _ _ h=>⟨h.1,aC h.2⟩
end Go.Proofs.YtmfehflibkokbaaGreatDoor
namespace Go.Proofs.YtmfehflibkokbaaGreatDoor
open Go.Proofs.Tryz
open Go.RowKit
theorem vN:∀ (y:List Cm) (k:Nat) (A:k<y.length),bQ (y.take (k+1))=bQ (y.take k)+y[k].t.length
 | c::y,0,_=>by simp [bQ]
 | c::y,k+1,h=>by
   have:=vN y k (by simpa using h);simp only [List.take_succ_cons,bQ,this,List.getElem_cons_succ];omega
theorem aBQ:∀ (h:List Cm) (k:Nat),bQ (h.take k)<=bQ h
 | [],k=>by simp
 | c::h,0=>by have:=bJ (c::h);simpa [bQ] using this
 | c::h,k+1=>by have:=aBQ h k;simp only [List.take_succ_cons,bQ];omega
theorem sP (v:Value) (h:List Cm) (w:World) (hv:RdC w.heap.size w v h) (X:h.length<=100000000) (hs:bQ h<=100000000) :
  Calls prog 65 #[v] w fun e w'=>e=.returned (.tuple #[.int .i64 (bQ h),.int .i64 h.length])/\w.grownBy w' none:=by
 obtain ⟨a,cap,G,_⟩:=id hv;have HV:=aB hv;subst G;clear hv
 go_enter func65,ntmps65
 go_wp2
 go_loopw [4,5] (fun n i wr=>∃ k:Nat,k<=h.length/\i=.int .i64 k/\n=.int .i64 (bQ (h.take k))/\w.grownBy wr none) (fun _ i _=>h.length - (intOf i).toNat)
 case atStart=>exact ⟨0,Nat.zero_le _,rfl,by simp [bQ],World.grownBy.refl _ _⟩
 case round=>
  obtain ⟨k,Y,rfl,rfl,y⟩:=hrel
  by_cases A:k<h.length
  ·obtain ⟨b,off,O,tv,E,hb,D⟩:=(HV.out.K y).at k A;cases E;have z0:=D.k;have z1:=D.t;obtain ⟨Z,M,J,_,_⟩:=D.sl;have N:=aB (vN h k A);have S:=aBQ h (k+1);rw [N.out] at S;have h2:=bJ (h.take k);subst J;clear D;generalize h[k]=p at *;generalize bQ (h.take k)=T at *;go_wp2
   go_roundw
   case rel=>exact ⟨k+1,by omega,by go_num,by rw [N.out],y⟩
   case measure=>simp [intOf];omega
  ·have U:h.take k=h:=(by rw [show k=h.length by omega,List.take_length]);rw [U];go_wp2;go_ret2;exact ⟨rfl,y⟩
theorem aBA:∀ (y:List Nod) (k:Nat) (A:k<y.length),eY (y.take (k+1))=eY (y.take k)+nr y[k]
 | n::y,0,_=>by simp [eY]
 | n::y,k+1,h=>by
   have:=aBA y k (by simpa using h);simp only [List.take_succ_cons,eY,this,List.getElem_cons_succ];omega
theorem aFZ:∀ (h:List Nod) (k:Nat),eY (h.take k)<=eY h
 | [],k=>by simp
 | n::h,0=>by have:=hZ (n::h);simpa [eY] using this
 | n::h,k+1=>by have:=aFZ h k;simp only [List.take_succ_cons,eY];omega
theorem aBo:∀ (y:List Nod) (k:Nat) (A:k<y.length),fR (y.take (k+1))=fR (y.take k)+nc y[k]
 | n::y,0,_=>by simp [fR]
 | n::y,k+1,h=>by
   have:=aBo y k (by simpa using h);simp only [List.take_succ_cons,fR,this,List.getElem_cons_succ];omega
theorem aFw:∀ (h:List Nod) (k:Nat),fR (h.take k)<=fR h
 | [],k=>by simp
 | n::h,0=>by have:=gT (n::h);simpa [fR] using this
 | n::h,k+1=>by have:=aFw h k;simp only [List.take_succ_cons,fR];omega
theorem aDE (nv tv:Value) (t:Tre) (w:World) (hv:eF w.heap.size w nv tv t) (hR:eY t.N+bQ t.tail<=100000000) (hK:fR t.N+t.tail.length<=100000000) (hn:t.N.length<=100000000) :
  Calls prog 33 #[.agg #[nv,tv]] w fun e w'=>e=.returned (.bool (decide (eY t.N+bQ t.tail<=100000)&&decide (fR t.N+t.tail.length<=4000)))/\w.grownBy w' none:=by
 obtain ⟨S,O⟩:=hv;obtain ⟨na,G,c4,_⟩:=id S;obtain ⟨ta,Z,c6,_⟩:=id O;have n1:=hZ t.N;have n2:=gT t.N;have n3:=bJ t.tail;have b9:Hid (∀ w',w.grownBy w' none->Calls prog 65 #[tv] w' fun e D=>e=.returned (.tuple #[.int .i64 (bQ t.tail),.int .i64 t.tail.length])/\w'.grownBy D none):=fun w' g=>sP tv t.tail w' ((O.K g).wide g.size) (by omega) (by omega);have HV:=aB S;subst c4 c6;clear S O
 go_enter func33,ntmps33
 go_wp2_with fail
 refine (b9.out _ gWA).mono ?_;rintro e w1 ⟨rfl,g1⟩;have c0:w1.cell? ⟨w.heap.size,0,none⟩=some (.slice na t.N.length G):=g1.cell (by simp [go_sem]) (by simp);have G1:=aB (aA (World.grownBy_alloc w (Obj.cells #[.slice na t.N.length G,.slice ta t.tail.length Z] 26) none) g1);clear g1;go_wp2
 go_loopw [3,4,5] (fun tt cc i wr=>∃ k:Nat,k<=t.N.length/\i=.int .i64 k/\tt=.int .i64 (bQ t.tail+eY (t.N.take k))/\cc=.int .i64 (t.tail.length+fR (t.N.take k))/\w1.grownBy wr none) (fun _ _ i _=>t.N.length - (intOf i).toNat)
 case atStart=>exact ⟨0,Nat.zero_le _,rfl,by simp [eY],by simp [fR],World.grownBy.refl _ _⟩
 case round=>
  obtain ⟨k,hk,rfl,rfl,rfl,y⟩:=hrel;have c1:=y.cell c0 (by simp);have E:=aA G1.out y
  by_cases M:k<t.N.length
  ·obtain ⟨b,off,d6,lv,kv,xv,uv,a4,c5,hb,h⟩:=(HV.out.K E).at k M;cases c5;have z0:=h.k;have z1:=h.L;have z2:=h.mem;have z3:=h.key;have z4:=h.X;have z5:=h.U;have z6:=h.C;have z7:=h.tail;have s1:=bJ t.N[k].L;have s2:=bJ t.N[k].tail;have HS:=aB (aBA t.N k M);have HQ:=aB (aBo t.N k M);have h1:=aFZ t.N (k+1);have h2:=hZ (t.N.take k);have h3:=aFw t.N (k+1);have h4:=gT (t.N.take k);rw [HS.out] at h1;rw [HQ.out] at h3;unfold nr at h1;unfold nc at h3;have J:=E.size;have L1:Hid (∀ w',wr.grownBy w' none->Calls prog 65 #[lv] w' fun e D=>e=.returned (.tuple #[.int .i64 (bQ t.N[k].L),.int .i64 t.N[k].L.length])/\w'.grownBy D none):=fun w' g=>sP lv t.N[k].L w' ((h.rl.K g).wide (Nat.le_trans J g.size)) (by omega) (by omega);have L2:Hid (∀ w',wr.grownBy w' none->Calls prog 65 #[a4] w' fun e D=>e=.returned (.tuple #[.int .i64 (bQ t.N[k].tail),.int .i64 t.N[k].tail.length])/\w'.grownBy D none):=fun w' g=>sP a4 t.N[k].tail w' ((h.rt.K g).wide (Nat.le_trans J g.size)) (by omega) (by omega);obtain ⟨la,d0,b3,_,_⟩:=h.rl.sl;obtain ⟨qa,a9,b7,_,_⟩:=h.rt.sl;obtain ⟨ka,a7,b6,_,_⟩:=h.sk;obtain ⟨xa,a6,b8,_,_⟩:=h.sx;obtain ⟨ua,a5,c3,_,_⟩:=h.su;have b4:Hid (nr t.N[k]=t.N[k].key.length+t.N[k].U.length+t.N[k].X.length+(bQ t.N[k].L+bQ t.N[k].tail)):=rfl;have b5:Hid (nc t.N[k]=t.N[k].L.length+t.N[k].tail.length):=rfl;have HG:=aB y;subst b3 b7 b6 b8 c3;clear h y E J;generalize t.N[k]=p at *;generalize eY (t.N.take k)=T at *;generalize fR (t.N.take k)=Q at *;generalize bQ p.L=A at *;generalize bQ p.tail=B at *;generalize bQ t.tail=C at *
   go_wp2_with fail
   refine (L1.out _ gWA).mono ?_;rintro e w2 ⟨rfl,Y⟩;have y3:w2.cell? ⟨wr.heap.size,3,none⟩=some (.slice ka p.key.length a7):=Y.cell (by simp [go_sem]) (by simp);have y4:w2.cell? ⟨wr.heap.size,4,none⟩=some (.slice xa p.X.length a6):=Y.cell (by simp [go_sem]) (by simp);have y5:w2.cell? ⟨wr.heap.size,5,none⟩=some (.slice ua p.U.length a5):=Y.cell (by simp [go_sem]) (by simp);have y7:w2.cell? ⟨wr.heap.size,7,none⟩=some (.slice qa p.tail.length a9):=Y.cell (by simp [go_sem]) (by simp);have G2:=aB (aA (World.grownBy_alloc wr _ none) Y);clear Y
   go_wp2_with fail
   refine (L2.out _ G2.out).mono ?_;rintro e w3 ⟨rfl,g3⟩;have x3:=g3.cell y3 (by simp);have x4:=g3.cell y4 (by simp);have x5:=g3.cell y5 (by simp);have G3:=aB (aA G2.out g3);clear g3;go_wp2
   go_roundw
   case rel=>exact ⟨k+1,by omega,by go_num,by rw [HS.out,b4.out];go_num,by rw [HQ.out,b5.out];go_num,aA HG.out G3.out⟩
   case measure=>simp [intOf];omega
  ·have ht:t.N.take k=t.N:=(by rw [show k=t.N.length by omega,List.take_length]);rw [ht];have e1:bQ t.tail+eY t.N=eY t.N+bQ t.tail:=(by omega);have e2:(t.tail.length:Int)+fR t.N=fR t.N+t.tail.length:=(by omega);rw [e1,e2];have HG:=aB E;clear ht e1 e2 y E
   by_cases hT:eY t.N+bQ t.tail<=100000
   ·have HF:Hid (decide (eY t.N+bQ t.tail<=100000)=true):=decide_eq_true hT;go_wp2;go_ret;exact ⟨by rw [HF.out];rfl,HG.out⟩
   ·have HF:Hid (decide (eY t.N+bQ t.tail<=100000)=false):=decide_eq_false hT;go_wp2;go_ret;exact ⟨by rw [HF.out];rfl,HG.out⟩
end Go.Proofs.YtmfehflibkokbaaGreatDoor
