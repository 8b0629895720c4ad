import Derived.Test.YtgifkcpdihphlaaGreatDoorMAF
import Derived.Test.YtgifkcpdihphlaaGreatDoorMAH
set_option maxHeartbeats 16000000
set_option maxRecDepth 100000
namespace Go.Proofs.YtgifkcpdihphlaaGreatDoor
open Tryz
open Go.RowKit
def lnE (p:Int):Bool:=decide (p=10\/p=13\/p=8232\/p=8233)
theorem aBo (p:Int) (w:World):Calls prog 100 #[.int .i64 p] w fun e w'=>e=.returned (.bool (lnE p))/\w=w':=by
 by_cases j:p=10
 ·subst j
  go_enter func100,ntmps100
  go_wp2;go_ret;exact ⟨rfl,rfl⟩
 ·by_cases y:p=13
  ·subst y
   go_enter func100,ntmps100
   go_wp2;go_ret;exact ⟨rfl,rfl⟩
  ·by_cases u:p=8232
   ·subst u
    go_enter func100,ntmps100
    go_wp2;go_ret;exact ⟨rfl,rfl⟩
   ·by_cases h:p=8233
    ·subst h
     go_enter func100,ntmps100
     go_wp2;go_ret;exact ⟨rfl,rfl⟩
    ·have A:Hid (lnE p=false):=(by unfold Hid lnE;simp [j,y,u,h]);have G:(p==10)=false:=(by simpa using j);have D:(p==13)=false:=(by simpa using y);have H:(p==8232)=false:=(by simpa using u);have E:(p==8233)=false:=by simpa using h
     go_enter func100,ntmps100
     go_wp2;go_ret;exact ⟨by rw [A.out];first | rfl | simp [h],rfl⟩
def cAt (b:Bool) (ps:List Int) (i:Nat):Bool:=
 !(lnE (ps[i]?.getD 0)&&(!decide (ps[i]?.getD 0=10) || !b)) && !(b&&(decide (0<i)&&(decide (ps[i]?.getD 0=47)&&decide (ps[i - 1]?.getD 0=42))))
def gE (c:Cm):Bool:=decide ((eM c.t).2.1=0)&&(List.range (eM c.t).1.length).all (cAt c.b (eM c.t).1)
theorem yN (tv:Value) (c:Cm) (w:World) (hv:RdB w.heap.size w tv c.t) (hs:Sl tv c.t.length) (H:Bys c.t) (hn:c.t.length<=1048576) :
  Calls prog 61 #[.agg #[.bool c.b,tv]] w fun e w'=>e=.returned (.bool (gE c))/\w.grownBy w' none:=by
 have HD:=aB (fun (w':World) (g:w.grownBy w' none)=>tO tv c.t w' ((hv.K g).wideC g.size) H hn);have c2:=aGE c.t.length c.t;obtain ⟨a,cap,c6,_,_⟩:=id hs;subst c6;clear hv hs
 go_enter func61,ntmps61
 go_wp2_with fail
 refine (HD.out _ gWA).mono ?_;rintro e w1 ⟨v1,rfl,o1,g1⟩;have J:w1.cell? ⟨w.heap.size,0,none⟩=some (.bool c.b):=g1.cell (by simp [go_sem]) (by simp);have G1:Hid (w.grownBy w1 none):=aA gWA g1;obtain ⟨b1,d3,b8,c3,d7⟩:=o1.sl;have R1:=aB o1.rd;subst b8;clear o1 g1
 by_cases hz:(eM c.t).2.1=0
 ·have b7:((eM c.t).2.1==0)=true:=(by simpa using hz);rw [hz];have HZ:=aB hz
  have c1:(eM c.t).1.length<=1048576:=by
   unfold eM
   split
   ·simp only;omega
   ·simp
  obtain ⟨ps,b0⟩:∃ ps,ps=(eM c.t).1:=⟨_,rfl⟩;have HP:=aB b0;rw [<- b0] at R1 c3 c1 ⊢;clear b7 hz b0 c2;go_wp2
  go_loopw [6] (fun i wr=>∃ (k:Nat),k<=ps.length/\i=.int .i64 k/\Hid ((List.range k).all (cAt c.b ps)=true)/\w1.grownBy wr none) (fun i _=>ps.length - (intOf i).toNat)
  case atStart=>exact ⟨0,Nat.zero_le _,rfl,by simp [Hid],World.grownBy.refl _ _⟩
  case round=>
   obtain ⟨k,hk,rfl,HA,X⟩:=hrel;have R1:=aB (R1.out.K X);have J:=X.cell J (by simp);have G1:Hid (w.grownBy wr none):=aA G1.out X;have N:=aB X;clear X
   by_cases a5:k<ps.length
   ·obtain ⟨a',d1,E,G⟩:=R1.out;obtain ⟨b,off,b6,f3,D⟩:=G (fun e=>by rw [e] at a5;simp at a5);have c0:b1=some ⟨b,off,none⟩:=(by simp only [Value.slice.injEq] at E;rw [E.1];exact b6);subst c0;have O:=D k a5;have d8:(k:Int)<ps.length:=(by omega);have M:=aB (fun w=>aBo (ps[k]?.getD 0) w)
    have y:cAt c.b ps k=false->Hid (gE c=false):=fun h=>by
     unfold Hid gE;rw [<- HP.out,Bool.and_eq_false_iff];right;rw [List.all_eq_false];exact ⟨k,by simpa using a5,by rw [h];simp⟩
    have u:cAt c.b ps k=true->Hid ((List.range (k+1)).all (cAt c.b ps)=true):=fun h=>by
     unfold Hid;rw [List.range_succ,List.all_append,HA.out];simp [h]
    by_cases U:lnE (ps[k]?.getD 0)=true
    ·rw [U] at M
     by_cases Z:ps[k]?.getD 0=10
     ·rw [Z] at O M
      by_cases H:c.b=true
      ·have Y:=u (by unfold cAt;rw [Z,H];simp);rw [H] at J;clear H;clear y u U D G E
       by_cases a6:k=0
       ·subst a6;simp only [Nat.add_zero] at O
        go_wp2_with fail
        refine (M.out _).mono ?_;rintro e w2 ⟨rfl,rfl⟩;go_wp2
        go_roundw
        case rel=>exact ⟨0+1,by omega,by go_num,Y,N.out⟩
        case measure=>simp [intOf];omega
       ·have c4:(0:Int)<k:=by omega
        go_wp2_with fail
        refine (M.out _).mono ?_;rintro e w2 ⟨rfl,rfl⟩;go_wp2
        go_roundw
        case rel=>exact ⟨k+1,by omega,by go_num,Y,N.out⟩
        case measure=>simp [intOf];omega
      ·have L:c.b=false:=(by simpa using H);have HF:=y (by unfold cAt;rw [Z,L];simp [lnE]);rw [L] at J;clear H L;clear y u U D G E
       go_wp2_with fail
       refine (M.out _).mono ?_;rintro e w2 ⟨rfl,rfl⟩;go_wp2;go_ret;exact ⟨by rw [HF.out];rfl,G1.out⟩
     ·have HF:=y (by unfold cAt;rw [U];simp [Z]);clear y u U D G E;generalize ps[k]?.getD 0=p at *
      go_wp2_with fail
      refine (M.out _).mono ?_;rintro e w2 ⟨rfl,rfl⟩;go_wp2;go_ret;exact ⟨by rw [HF.out];rfl,G1.out⟩
    ·have A:lnE (ps[k]?.getD 0)=false:=(by simpa using U);rw [A] at M
     by_cases H:c.b=true
     ·by_cases a6:k=0
      ·have Y:=u (by unfold cAt;rw [A,a6];simp);subst a6;rw [H] at J;clear H;clear y u U A D G E;simp only [Nat.add_zero] at O;generalize ps[0]?.getD 0=p at *
       go_wp2_with fail
       refine (M.out _).mono ?_;rintro e w2 ⟨rfl,rfl⟩;go_wp2
       go_roundw
       case rel=>exact ⟨0+1,by omega,by go_num,Y,N.out⟩
       case measure=>simp [intOf];omega
      ·have c4:(0:Int)<k:=(by omega);obtain ⟨j,rfl⟩:∃ j,k=j+1:=⟨k - 1,by omega⟩;have b3:=D j (by omega)
       by_cases S:ps[j+1]?.getD 0=47
       ·by_cases a4:ps[j]?.getD 0=42
        ·have HF:=y (by unfold cAt;rw [A,H,S];simp [a4]);rw [H] at J;clear H;rw [S] at O M;rw [a4] at b3;clear y u U A D G E
         go_wp2_with fail
         refine (M.out _).mono ?_;rintro e w2 ⟨rfl,rfl⟩;go_wp2;go_ret;exact ⟨by rw [HF.out];rfl,G1.out⟩
        ·have Y:=u (by unfold cAt;rw [A];simp [a4]);rw [H] at J;clear H;rw [S] at O M;have d2:(ps[j]?.getD 0==42)=false:=(by simpa using a4);clear y u U A D G E;generalize ps[j]?.getD 0=q at *
         go_wp2_with fail
         refine (M.out _).mono ?_;rintro e w2 ⟨rfl,rfl⟩;go_wp2
         go_roundw
         case rel=>exact ⟨j+1+1,by omega,by go_num,Y,N.out⟩
         case measure=>simp [intOf];omega
       ·have Y:=u (by unfold cAt;rw [A];simp [S]);rw [H] at J;clear H;have c8:(ps[j+1]?.getD 0==47)=false:=(by simpa using S);clear y u U A D G E b3;generalize ps[j+1]?.getD 0=p at *
        go_wp2_with fail
        refine (M.out _).mono ?_;rintro e w2 ⟨rfl,rfl⟩;go_wp2
        go_roundw
        case rel=>exact ⟨j+1+1,by omega,by go_num,Y,N.out⟩
        case measure=>simp [intOf];omega
     ·have L:c.b=false:=(by simpa using H);have Y:=u (by unfold cAt;rw [A,L];simp);rw [L] at J;clear H L;clear y u U A D G E;generalize ps[k]?.getD 0=p at *
      go_wp2_with fail
      refine (M.out _).mono ?_;rintro e w2 ⟨rfl,rfl⟩;go_wp2
      go_roundw
      case rel=>exact ⟨k+1,by omega,by go_num,Y,N.out⟩
      case measure=>simp [intOf];omega
   ·have HF:Hid (gE c=true):=by
     unfold Hid gE;rw [HZ.out,<- HP.out];have:=HA.out;rw [show k=ps.length by omega] at this;rw [this];rfl
    go_wp2;go_ret;exact ⟨by rw [HF.out];rfl,G1.out⟩
 ·have HF:Hid (gE c=false):=(by unfold Hid gE;simp [hz]);generalize (eM c.t).2.1=z at *;go_wp2;go_ret;exact ⟨by rw [HF.out];rfl,G1.out⟩
theorem nM (v:Value) (zs:List Int) (w:World) (hv:RdI w.heap.size w v zs) (hn:zs.length<=2097152) :
  Calls prog 101 #[v] w fun e w'=>∃ v',e=.returned (.tuple #[v',.int .i64 (fuR zs).2])/\OwI w.heap.size w' v' (fuR zs).1/\w.grownBy w' none:=by
 obtain ⟨i0,hi,a8,b2,b7⟩:=info_parts aAH;obtain ⟨a,cap,rfl,hr⟩:=hv
 go_enter func101,ntmps101
 go_wp2
 go_loop [4] (fun i=>∃ k:Nat,k<=zs.length/\i=.int .i64 k/\(zs.take k).all bZ=true) (fun i=>zs.length - (intOf i).toNat)
 case atStart=>exact ⟨0,Nat.zero_le _,rfl,rfl⟩
 case round=>
  obtain ⟨k,hk,rfl,J⟩:=hrel
  by_cases H:k<zs.length
  ·obtain ⟨b,off,rfl,hb,S⟩:=hr (fun h=>by simp [h] at H);have Z:=S k H;have N:=lF zs bZ k H J;have M:=yW zs bZ k H;generalize zs[k]?.getD 0=p at Z N M
   by_cases d5:p<0
   ·have O:Hid (zs.all bZ=false):=M (by simp [bZ];omega);clear N M S hr;go_wp2;go_ret2;exact ⟨_,by rw [rY _ O.out];rfl,by rw [rY _ O.out];exact World.ownsRow_nil _ _ _ _,World.grownBy.refl _ _⟩
   ·by_cases c0:65535<p
    ·have O:Hid (zs.all bZ=false):=M (by simp [bZ];omega);clear N M S hr;go_wp2;go_ret2;exact ⟨_,by rw [rY _ O.out];rfl,by rw [rY _ O.out];exact World.ownsRow_nil _ _ _ _,World.grownBy.refl _ _⟩
    ·have a9:=N (by simp [bZ];omega);clear N M S hr;go_wp2
     go_round
     case rel=>exact ⟨k+1,by omega,by go_num,a9⟩
     case measure=>simp [intOf];omega
  ·have O:Hid (zs.all bZ=true):=by
    unfold Hid;rw [List.take_of_length_le (by omega)] at J;exact J
   clear J;go_wp2
   go_loopw [5,6] (fun v i wr=>∃ (k:Nat) (G:List Int),k<=zs.length/\i=.int .i64 k/\OwI w.heap.size wr v G/\G.length<=k/\G++fu (zs.drop k)=fu zs/\Below w.heap.size w wr)
    (fun _ i _=>zs.length - (intOf i).toNat)
   case atStart=>exact ⟨0,[],Nat.zero_le _,rfl,World.ownsRow_nil _ _ _ _,Nat.le_refl _,by simp,Below.refl _ _⟩
   case round=>
    rename_i hk0 hlt0
    obtain ⟨k,G,hk,rfl,j,c8,hx,E⟩:=hrel
    by_cases H:k<zs.length
    ·obtain ⟨b,off,rfl,hb,S⟩:=hr (fun h=>by simp [h] at H);have Z:wr.cell? ⟨b,off+k,none⟩=some (.int .i64 (zs[k]?.getD 0)):=(E.cell (by exact hb)).trans (S k H);have L:k+1<zs.length->wr.cell? ⟨b,off+(k+1),none⟩=some (.int .i64 (zs[k+1]?.getD 0)):=fun h=>(E.cell (by exact hb)).trans (S (k+1) h);have h1:=aJW zs k H;have h2:=aIf zs k;generalize zs[k]?.getD 0=p at Z h1 h2;generalize zs[k+1]?.getD 0=x at L h1 h2;clear S hr
     by_cases D:lU p=true/\k+1<zs.length/\mD x=true
     ·obtain ⟨hp,U,X⟩:=D;have HE:=aEv hx (h2 U hp X);have c4:Hid (G++[qD p x]++fu (zs.drop (k+2))=fu zs):=HE;have a7:=L U;simp [lU] at hp;simp [mD] at X;obtain ⟨c0,d1⟩:=hp;obtain ⟨d2,d3⟩:=X;clear h1 h2 HE L hx;have b3:qD p x=65536+(p - 55296)*1024+x - 56320:=(by unfold qD;omega);have HP:Hid (qD p x=65536+(p - 55296)*1024+x - 56320):=b3;clear b3
      go_wp2_with (at_builtin;refine wpList_append_own _ rfl _ _ 47 rfl w.heap.size 3 i0 (.int .i64 0) 1 8 underlying47 hi a8 b2 b7 rfl (by decide) _ _ _ rfl (World.ownsRow.alloc j _) ⟨wr.heap.size,0,none⟩ 1 1 [.int .i64 (65536+(p - 55296)*1024+x - 56320)] rfl rfl (cell_one_new _ _ _) (by intro u hu;simp at hu;subst hu;rfl) (by unfold maxLen;omega) (by omega) (by have:=E.size;simp;omega) ?_;intro v' w1 A y _)
      have R:=cD (xs:=[65536+(p - 55296)*1024+x - 56320]) _ E.size j A (by simp) y;clear A y j;go_wp2
      go_roundw
      case rel=>exact ⟨k+2,G++[65536+(p - 55296)*1024+x - 56320],by omega,by go_num,R.1,by simp;omega,by rw [<- HP.out];exact c4.out,E.trans R.2⟩
      case measure=>simp [intOf];omega
     ·have HE:Hid (G++[p]++fu (zs.drop (k+1))=fu zs):=aDL hx (h1 D)
      have a6:p<55296\/56319<p\/(55296<=p/\p<=56319/\zs.length<=k+1)\/(55296<=p/\p<=56319/\k+1<zs.length/\x<56320)\/(55296<=p/\p<=56319/\k+1<zs.length/\56320<=x/\57343<x):=by
       simp only [lU,mD,decide_eq_true_eq] at D;omega
      clear h1 h2 D hx;rcases a6 with hw | hw | ⟨b1,b0,Y⟩ | ⟨b1,b0,Y,c1⟩ | ⟨b1,b0,Y,c1,c9⟩
      all_goals
       first
        | (have a7:=L Y;clear L)
        | clear L
       go_wp2_with (at_builtin;refine wpList_append_own _ rfl _ _ 47 rfl w.heap.size 3 i0 (.int .i64 0) 1 8 underlying47 hi a8 b2 b7 rfl (by decide) _ _ _ rfl (World.ownsRow.alloc j _) ⟨wr.heap.size,0,none⟩ 1 1 [.int .i64 p] rfl rfl (cell_one_new _ _ _) (by intro u hu;simp at hu;subst hu;rfl) (by unfold maxLen;omega) (by omega) (by have:=E.size;simp;omega) ?_;intro v' w1 A y _)
       have R:=cD (xs:=[p]) _ E.size j A (by simp) y;clear A y j;go_wp2
       go_roundw
       case rel=>exact ⟨k+1,G++[p],by omega,by go_num,R.1,by simp;omega,HE.out,E.trans R.2⟩
       case measure=>simp [intOf];omega
    ·have hE:=aIU (by omega) hx;rw [hE] at j;clear hx hr hE;go_wp2;go_ret2;exact ⟨_,by rw [aCo _ O.out];rfl,by rw [aCo _ O.out];exact j,aC E⟩
theorem aIC {α:Type} (f:α->Bool) (j:List α) (k:Nat) (y:k<j.length) (h:(j.take k).all f=true) (u:f j[k]=true):(j.take (k+1)).all f=true:=by
 rw [List.take_add_one,List.getElem?_eq_getElem y,List.all_append,h];simp [u]
theorem aKa {α:Type} (f:α->Bool) (h:List α) (k:Nat) (u:k<h.length) (j:f h[k]=false):h.all f=false:=by
 rw [List.all_eq_false];exact ⟨h[k],List.getElem_mem u,by rw [j];simp⟩
def aAR (cs:List Cm):Prop:=∀ c∈cs,c.t.length<=1048576/\Bys c.t
theorem kU (v:Value) (h:List Cm) (w:World) (hv:RdC w.heap.size w v h) (hn:h.length<=1048576) (X:aAR h) :
  Calls prog 32 #[v] w fun e w'=>e=.returned (.bool (h.all gE))/\w.grownBy w' none:=by
 obtain ⟨a,cap,N,_⟩:=id hv;have HV:=aB hv;have HO:=aB X;subst N;clear hv X
 go_enter func32,ntmps32
 go_wp2
 go_loopw [3] (fun i wr=>∃ k:Nat,k<=h.length/\i=.int .i64 k/\Hid ((h.take k).all gE=true)/\w.grownBy wr none) (fun i _=>h.length - (intOf i).toNat)
 case atStart=>exact ⟨0,Nat.zero_le _,rfl,by simp [Hid],World.grownBy.refl _ _⟩
 case round=>
  obtain ⟨k,hk,rfl,O,j⟩:=hrel
  by_cases u:k<h.length
  ·obtain ⟨b,off,S,tv,M,hb,A⟩:=(HV.out.K j).at k u;cases M;have z0:=A.k;have z1:=A.t;obtain ⟨h1,Y⟩:=HO.out h[k] (List.getElem_mem u);have H:=aB (yN tv h[k] wr (A.rd.wideC j.size) A.sl Y h1);obtain ⟨ta,U,J,_,_⟩:=A.sl;have G:=aB j;subst J;clear A Y j;cases D:gE h[k] with
   | true=>
     have HN:=aB (aIC gE h k u O.out D);rw [D] at H;clear D;generalize h[k]=p at *
     go_wp2_with fail
     refine H.out.mono ?_;rintro e Z ⟨rfl,E⟩;have y:=aB (aA G.out E);clear E;go_wp2
     go_roundw
     case rel=>exact ⟨k+1,by omega,by go_num,HN,y.out⟩
     case measure=>simp [intOf];omega
   | false=>
     have L:=aB (aKa gE h k u D);rw [D] at H;clear D;generalize h[k]=p at *
     go_wp2_with fail
     refine H.out.mono ?_;rintro e Z ⟨rfl,E⟩;have y:=aB (aA G.out E);clear E;go_wp2;go_ret;exact ⟨by rw [L.out];rfl,y.out⟩
  ·have L:Hid (h.all gE=true):=by
    have:=O.out;rw [show k=h.length by omega,List.take_length] at this;exact this
   have G:=aB j;go_wp2;go_ret;exact ⟨by rw [L.out];rfl,G.out⟩
theorem tE (v:Value) (zs:List Int) (w:World) (hv:RdI w.heap.size w v zs) (E:zs.length<=2097152) :
  Calls prog 62 #[v] w fun e w'=>e=.returned (.bool (zs.all bZ))/\w.grownBy w' none:=by
 obtain ⟨a,cap,y,_⟩:=id hv;have j:=aB (nM v zs w hv E);subst y;clear hv;cases h:zs.all bZ with
 | true=>
   have A:(fuR zs).2=0:=(by unfold fuR;rw [h];rfl);rw [A] at j
   go_enter func62,ntmps62
   go_wp2_with fail
   refine j.out.mono ?_;rintro e D ⟨H,rfl,G,u⟩;go_wp2;go_ret;exact ⟨rfl,u⟩
 | false=>
   have A:(fuR zs).2=1:=(by unfold fuR;rw [h];rfl);rw [A] at j
   go_enter func62,ntmps62
   go_wp2_with fail
   refine j.out.mono ?_;rintro e D ⟨H,rfl,G,u⟩;go_wp2;go_ret;exact ⟨rfl,u⟩
def aV (p:Nod):Bool:=
 decide (0<=p.k/\p.k<=6)&&(p.L.all gE&&(p.tail.all gE&&(p.key.all bZ&&(p.U.all bZ&&((p.mem||decide (p.key=[]))&&((if p.k=3 then oC p.X else decide (p.X=[]))&&((decide (p.k=4)||decide (p.U=[]))&&((decide (5<=p.k)||(decide (p.C=0)&&decide (p.tail=[])))&&decide (0<=p.C)))))))))
theorem rN (p:Nod):aV p=true ↔ fJ gE oC p:=by
 unfold aV fJ;simp only [Bool.and_eq_true,Bool.or_eq_true,decide_eq_true_eq];constructor
 ·rintro ⟨y,J,D,A,L,E,j,G,H,h⟩;refine ⟨y,J,D,A,L,E,fun e=>?_,fun e=>?_,fun e=>G.resolve_left e,fun e=>H.resolve_left (by omega),h⟩
  ·rw [if_pos e] at j;exact j
  ·rw [if_neg e] at j;exact of_decide_eq_true j
 ·rintro ⟨y,J,D,A,L,E,j,G,H,h,u⟩;refine ⟨y,J,D,A,L,E,?_,?_,?_,u⟩
  ·by_cases e:p.k=3
   ·rw [if_pos e];exact j e
   ·rw [if_neg e];exact decide_eq_true (G e)
  ·by_cases e:p.k=4
   ·exact .inl e
   ·exact .inr (H e)
  ·by_cases e:5<=p.k
   ·exact .inl e
   ·exact .inr (h (by omega))
theorem iD (p:Nod) (A:0<=p.k/\p.k<=6) (M:p.L.all gE=true) (D:p.tail.all gE=true) (u:p.key.all bZ=true) (J:p.U.all bZ=true) (y:p.mem=true\/p.key=[]) (E:p.k=3->oC p.X=true) (h:p.k≠3->p.X=[]) (G:p.k≠4->p.U=[]) (H:p.k<5->p.C=0/\p.tail=[]) (j:0<=p.C):aV p=true:=
 (rN p).2 ⟨A,M,D,u,J,y,E,h,G,H,j⟩
structure zP (p:Nod):Prop where
 l:p.L.length<=1048576/\aAR p.L
 t:p.tail.length<=1048576/\aAR p.tail
 k:p.key.length<=1048576
 x:p.X.length<=1048576/\Bys p.X
 u:p.U.length<=1048576
structure N8 (W:World) (b:Nat) (p:Nod) (lv kv xv uv tv:Value):Prop where
 c0:W.cell? ⟨b,0,none⟩=some (.int .i64 p.k)
 c1:W.cell? ⟨b,1,none⟩=some lv
 c2:W.cell? ⟨b,2,none⟩=some (.bool p.mem)
 c3:W.cell? ⟨b,3,none⟩=some kv
 c4:W.cell? ⟨b,4,none⟩=some xv
 c5:W.cell? ⟨b,5,none⟩=some uv
 c6:W.cell? ⟨b,6,none⟩=some (.int .i64 p.C)
 c7:W.cell? ⟨b,7,none⟩=some tv
theorem N8.K {W u:World} {b:Nat} {p:Nod} {lv A y j tv:Value} (h:N8 W b p lv A y j tv) (g:W.grownBy u none):N8 u b p lv A y j tv:=
 ⟨g.cell h.c0 (by simp),g.cell h.c1 (by simp),g.cell h.c2 (by simp),g.cell h.c3 (by simp),g.cell h.c4 (by simp),g.cell h.c5 (by simp),g.cell h.c6 (by simp),g.cell h.c7 (by simp)⟩
theorem aCw (p:Nod) (lv kv xv uv tv:Value) (B:Nat) (w:World) (hB:B<=w.heap.size) (hl:RdC B w lv p.L) (hk:RdI B w kv p.key) (sk:Sl kv p.key.length) (hx:RdB B w xv p.X) (sx:Sl xv p.X.length) (hu:RdI B w uv p.U) (su:Sl uv p.U.length) (ht:RdC B w tv p.tail) (ho:zP p) :
  Calls prog 33 #[.agg #[.int .i64 p.k,lv,.bool p.mem,kv,xv,uv,.int .i64 p.C,tv]] w fun e w'=>e=.returned (.bool (aV p))/\w.grownBy w' none:=by
 have HL:=aB (fun (w':World) (g:w.grownBy w' none)=>kU lv p.L w' ((hl.K g).wide (Nat.le_trans hB g.size)) ho.l.1 ho.l.2);have HT:=aB (fun (w':World) (g:w.grownBy w' none)=>kU tv p.tail w' ((ht.K g).wide (Nat.le_trans hB g.size)) ho.t.1 ho.t.2);have HK:=aB (fun (w':World) (g:w.grownBy w' none)=>tE kv p.key w' ((hk.K g).wideC (Nat.le_trans hB g.size)) (by have:=ho.k;omega));have HU:=aB (fun (w':World) (g:w.grownBy w' none)=>tE uv p.U w' ((hu.K g).wideC (Nat.le_trans hB g.size)) (by have:=ho.u;omega));have HX:=aB (fun (w':World) (g:w.grownBy w' none)=>xC xv p.X w' ((hx.K g).wideC (Nat.le_trans hB g.size)) ho.x.2 ho.x.1);obtain ⟨la,a9,f5,_,_⟩:=hl.sl;obtain ⟨ta,b2,c6,_,_⟩:=ht.sl;obtain ⟨ka,a7,c7,_,_⟩:=sk;obtain ⟨xa,b1,d5,_,_⟩:=sx;obtain ⟨ua,a6,d4,_,_⟩:=su;have l1:=ho.k;have l2:=ho.u;have l3:=ho.x.1;have l4:=ho.t.1;subst f5 c6 c7 d5 d4;clear hl hk hx hu ht ho
 by_cases hr:0<=p.k/\p.k<=6
 ·obtain ⟨Z,Y⟩:=hr;have G:Hid (w.grownBy (w.alloc (Obj.cells #[.int .i64 p.k,.slice la p.L.length a9,.bool p.mem,.slice ka p.key.length a7,.slice xa p.X.length b1,.slice ua p.U.length a6,.int .i64 p.C,.slice ta p.tail.length b2] 49)) none):=gWA
  have N8:N8 (w.alloc (Obj.cells #[.int .i64 p.k,.slice la p.L.length a9,.bool p.mem,.slice ka p.key.length a7,.slice xa p.X.length b1,.slice ua p.U.length a6,.int .i64 p.C,.slice ta p.tail.length b2] 49)) w.heap.size p (.slice la p.L.length a9) (.slice ka p.key.length a7) (.slice xa p.X.length b1) (.slice ua p.U.length a6) (.slice ta p.tail.length b2):=
   ⟨by simp [go_sem],by simp [go_sem],by simp [go_sem],by simp [go_sem],by simp [go_sem],by simp [go_sem],by simp [go_sem],by simp [go_sem]⟩
  go_enter func33,ntmps33
  go_wp2_with fail
  refine (HL.out _ G.out).mono ?_;rintro e w1 ⟨rfl,g1⟩;have N8:=N8.K g1;obtain ⟨q0,q1,q2,q3,q4,q5,q6,q7⟩:=id N8;have G:=aB (aA G.out g1);clear g1;cases hL:p.L.all gE with
  | false=>
    have j:Hid (aV p=false):=(by unfold Hid aV;simp [hL]);go_wp2;go_ret;exact ⟨by rw [j.out];first | rfl | simp [j.out],G.out⟩
  | true=>
    go_wp2_with fail
    refine (HT.out _ G.out).mono ?_;rintro e w2 ⟨rfl,g2⟩;have N8:=N8.K g2;obtain ⟨q0,q1,q2,q3,q4,q5,q6,q7⟩:=id N8;have G:=aB (aA G.out g2);clear g2;cases hT:p.tail.all gE with
    | false=>
      have j:Hid (aV p=false):=(by unfold Hid aV;simp [hT]);go_wp2;go_ret;exact ⟨by rw [j.out];first | rfl | simp [j.out],G.out⟩
    | true=>
      go_wp2_with fail
      refine (HK.out _ G.out).mono ?_;rintro e w3 ⟨rfl,g3⟩;have N8:=N8.K g3;obtain ⟨q0,q1,q2,q3,q4,q5,q6,q7⟩:=id N8;have G:=aB (aA G.out g3);clear g3;cases hK:p.key.all bZ with
      | false=>
        have j:Hid (aV p=false):=(by unfold Hid aV;simp [hK]);go_wp2;go_ret;exact ⟨by rw [j.out];first | rfl | simp [j.out],G.out⟩
      | true=>
        go_wp2_with fail
        refine (HU.out _ G.out).mono ?_;rintro e w4 ⟨rfl,g4⟩;have N8:=N8.K g4;obtain ⟨q0,q1,q2,q3,q4,q5,q6,q7⟩:=id N8;have G:=aB (aA G.out g4);clear g4;cases hU:p.U.all bZ with
        | false=>
          have j:Hid (aV p=false):=(by unfold Hid aV;simp [hU]);go_wp2;go_ret;exact ⟨by rw [j.out];first | rfl | simp [j.out],G.out⟩
        | true=>
          cases hm:p.mem with
          | true=>
            by_cases S:p.k=3
            ·have b8:(p.k==3)=true:=by simpa using S
             go_wp2_with fail
             refine (HX.out _ G.out).mono ?_;rintro e w9 ⟨rfl,rfl⟩;cases hX:oC p.X with
             | false=>
               have j:Hid (aV p=false):=(by unfold Hid aV;simp [S,hX]);go_wp2;go_ret;exact ⟨by rw [j.out];first | rfl | simp [j.out],G.out⟩
             | true=>
               have a8:(p.k != 4)=true:=(by rw [S];rfl);have O:¬ p.k=4:=by omega
               by_cases D:p.U=[]
               ·have a4:(p.U.length:Int)=0:=(by rw [D];rfl);have h5:p.k<5:=by omega
                ·have E:¬ 5<=p.k:=by omega
                 by_cases y:p.C=0
                 ·have M:(p.C != 0)=false:=by simpa using y
                  by_cases A:p.tail=[]
                  ·have J:(p.tail.length:Int)=0:=(by rw [A];rfl);have j:Hid (aV p=true):=iD p ⟨Z,Y⟩ hL hT hK hU (by first | exact .inl hm | exact .inr N) (by intro e;first | exact hX | omega) (by intro e;first | exact H | exact absurd S e) (by intro e;first | exact D | exact absurd O e) (by intro e;first | exact ⟨y,A⟩ | omega) (by first | exact y | omega);go_wp2;go_ret;exact ⟨by rw [j.out];first | rfl | simp [j.out],G.out⟩
                  ·have J:¬ (p.tail.length:Int)=0:=fun h=>A (List.eq_nil_of_length_eq_zero (by omega));have j:Hid (aV p=false):=(by unfold Hid aV;simp [E,A]);go_wp2;go_ret;exact ⟨by rw [j.out];first | rfl | simp [j.out],G.out⟩
                 ·have M:(p.C != 0)=true:=(by simpa using y);have j:Hid (aV p=false):=(by unfold Hid aV;simp [E,y]);go_wp2;go_ret;exact ⟨by rw [j.out];first | rfl | simp [j.out],G.out⟩
               ·have a4:¬ (p.U.length:Int)=0:=fun h=>D (List.eq_nil_of_length_eq_zero (by omega));have j:Hid (aV p=false):=(by unfold Hid aV;simp [O,D]);go_wp2;go_ret;exact ⟨by rw [j.out];first | rfl | simp [j.out],G.out⟩
            ·have b8:(p.k==3)=false:=by simpa using S
             by_cases H:p.X=[]
             ·have b9:(p.X.length:Int)=0:=by rw [H];rfl
              by_cases O:p.k=4
              ·have a8:(p.k != 4)=false:=(by simpa using O);have h5:p.k<5:=by omega
               ·have E:¬ 5<=p.k:=by omega
                by_cases y:p.C=0
                ·have M:(p.C != 0)=false:=by simpa using y
                 by_cases A:p.tail=[]
                 ·have J:(p.tail.length:Int)=0:=(by rw [A];rfl);have j:Hid (aV p=true):=iD p ⟨Z,Y⟩ hL hT hK hU (by first | exact .inl hm | exact .inr N) (by intro e;first | exact hX | omega) (by intro e;first | exact H | exact absurd S e) (by intro e;first | exact D | exact absurd O e) (by intro e;first | exact ⟨y,A⟩ | omega) (by first | exact y | omega);go_wp2;go_ret;exact ⟨by rw [j.out];first | rfl | simp [j.out],G.out⟩
                 ·have J:¬ (p.tail.length:Int)=0:=fun h=>A (List.eq_nil_of_length_eq_zero (by omega));have j:Hid (aV p=false):=(by unfold Hid aV;simp [E,A]);go_wp2;go_ret;exact ⟨by rw [j.out];first | rfl | simp [j.out],G.out⟩
                ·have M:(p.C != 0)=true:=(by simpa using y);have j:Hid (aV p=false):=(by unfold Hid aV;simp [E,y]);go_wp2;go_ret;exact ⟨by rw [j.out];first | rfl | simp [j.out],G.out⟩
              ·have a8:(p.k != 4)=true:=by simpa using O
               by_cases D:p.U=[]
               ·have a4:(p.U.length:Int)=0:=by rw [D];rfl
                by_cases h5:p.k<5
                ·have E:¬ 5<=p.k:=by omega
                 by_cases y:p.C=0
                 ·have M:(p.C != 0)=false:=by simpa using y
                  by_cases A:p.tail=[]
                  ·have J:(p.tail.length:Int)=0:=(by rw [A];rfl);have j:Hid (aV p=true):=iD p ⟨Z,Y⟩ hL hT hK hU (by first | exact .inl hm | exact .inr N) (by intro e;first | exact hX | omega) (by intro e;first | exact H | exact absurd S e) (by intro e;first | exact D | exact absurd O e) (by intro e;first | exact ⟨y,A⟩ | omega) (by first | exact y | omega);go_wp2;go_ret;exact ⟨by rw [j.out];first | rfl | simp [j.out],G.out⟩
                  ·have J:¬ (p.tail.length:Int)=0:=fun h=>A (List.eq_nil_of_length_eq_zero (by omega));have j:Hid (aV p=false):=(by unfold Hid aV;simp [E,A]);go_wp2;go_ret;exact ⟨by rw [j.out];first | rfl | simp [j.out],G.out⟩
                 ·have M:(p.C != 0)=true:=(by simpa using y);have j:Hid (aV p=false):=(by unfold Hid aV;simp [E,y]);go_wp2;go_ret;exact ⟨by rw [j.out];first | rfl | simp [j.out],G.out⟩
                ·have E:5<=p.k:=by omega
                 by_cases y:0<=p.C
                 ·have c0:¬ p.C<0:=(by omega);have j:Hid (aV p=true):=iD p ⟨Z,Y⟩ hL hT hK hU (by first | exact .inl hm | exact .inr N) (by intro e;first | exact hX | omega) (by intro e;first | exact H | exact absurd S e) (by intro e;first | exact D | exact absurd O e) (by intro e;first | exact ⟨y,A⟩ | omega) (by first | exact y | omega);go_wp2;go_ret;exact ⟨by rw [j.out];first | rfl | simp [y],G.out⟩
                 ·have c0:p.C<0:=(by omega);have j:Hid (aV p=false):=(by unfold Hid aV;simp [y]);go_wp2;go_ret;exact ⟨by rw [j.out];first | rfl | simp [y],G.out⟩
               ·have a4:¬ (p.U.length:Int)=0:=fun h=>D (List.eq_nil_of_length_eq_zero (by omega));have j:Hid (aV p=false):=(by unfold Hid aV;simp [O,D]);go_wp2;go_ret;exact ⟨by rw [j.out];first | rfl | simp [j.out],G.out⟩
             ·have b9:¬ (p.X.length:Int)=0:=fun h=>H (List.eq_nil_of_length_eq_zero (by omega));have j:Hid (aV p=false):=(by unfold Hid aV;simp [S,H]);go_wp2;go_ret;exact ⟨by rw [j.out];first | rfl | simp [j.out],G.out⟩
          | false=>
            by_cases N:p.key=[]
            ·have d0:(p.key.length:Int)=0:=by rw [N];rfl
             by_cases S:p.k=3
             ·have b8:(p.k==3)=true:=by simpa using S
              go_wp2_with fail
              refine (HX.out _ G.out).mono ?_;rintro e w9 ⟨rfl,rfl⟩;cases hX:oC p.X with
              | false=>
                have j:Hid (aV p=false):=(by unfold Hid aV;simp [S,hX]);go_wp2;go_ret;exact ⟨by rw [j.out];first | rfl | simp [j.out],G.out⟩
              | true=>
                have a8:(p.k != 4)=true:=(by rw [S];rfl);have O:¬ p.k=4:=by omega
                by_cases D:p.U=[]
                ·have a4:(p.U.length:Int)=0:=(by rw [D];rfl);have h5:p.k<5:=by omega
                 ·have E:¬ 5<=p.k:=by omega
                  by_cases y:p.C=0
                  ·have M:(p.C != 0)=false:=by simpa using y
                   by_cases A:p.tail=[]
                   ·have J:(p.tail.length:Int)=0:=(by rw [A];rfl);have j:Hid (aV p=true):=iD p ⟨Z,Y⟩ hL hT hK hU (by first | exact .inl hm | exact .inr N) (by intro e;first | exact hX | omega) (by intro e;first | exact H | exact absurd S e) (by intro e;first | exact D | exact absurd O e) (by intro e;first | exact ⟨y,A⟩ | omega) (by first | exact y | omega);go_wp2;go_ret;exact ⟨by rw [j.out];first | rfl | simp [j.out],G.out⟩
                   ·have J:¬ (p.tail.length:Int)=0:=fun h=>A (List.eq_nil_of_length_eq_zero (by omega));have j:Hid (aV p=false):=(by unfold Hid aV;simp [E,A]);go_wp2;go_ret;exact ⟨by rw [j.out];first | rfl | simp [j.out],G.out⟩
                  ·have M:(p.C != 0)=true:=(by simpa using y);have j:Hid (aV p=false):=(by unfold Hid aV;simp [E,y]);go_wp2;go_ret;exact ⟨by rw [j.out];first | rfl | simp [j.out],G.out⟩
                ·have a4:¬ (p.U.length:Int)=0:=fun h=>D (List.eq_nil_of_length_eq_zero (by omega));have j:Hid (aV p=false):=(by unfold Hid aV;simp [O,D]);go_wp2;go_ret;exact ⟨by rw [j.out];first | rfl | simp [j.out],G.out⟩
             ·have b8:(p.k==3)=false:=by simpa using S
              by_cases H:p.X=[]
              ·have b9:(p.X.length:Int)=0:=by rw [H];rfl
               by_cases O:p.k=4
               ·have a8:(p.k != 4)=false:=(by simpa using O);have h5:p.k<5:=by omega
                ·have E:¬ 5<=p.k:=by omega
                 by_cases y:p.C=0
                 ·have M:(p.C != 0)=false:=by simpa using y
                  by_cases A:p.tail=[]
                  ·have J:(p.tail.length:Int)=0:=(by rw [A];rfl);have j:Hid (aV p=true):=iD p ⟨Z,Y⟩ hL hT hK hU (by first | exact .inl hm | exact .inr N) (by intro e;first | exact hX | omega) (by intro e;first | exact H | exact absurd S e) (by intro e;first | exact D | exact absurd O e) (by intro e;first | exact ⟨y,A⟩ | omega) (by first | exact y | omega);go_wp2;go_ret;exact ⟨by rw [j.out];first | rfl | simp [j.out],G.out⟩
                  ·have J:¬ (p.tail.length:Int)=0:=fun h=>A (List.eq_nil_of_length_eq_zero (by omega));have j:Hid (aV p=false):=(by unfold Hid aV;simp [E,A]);go_wp2;go_ret;exact ⟨by rw [j.out];first | rfl | simp [j.out],G.out⟩
                 ·have M:(p.C != 0)=true:=(by simpa using y);have j:Hid (aV p=false):=(by unfold Hid aV;simp [E,y]);go_wp2;go_ret;exact ⟨by rw [j.out];first | rfl | simp [j.out],G.out⟩
               ·have a8:(p.k != 4)=true:=by simpa using O
                by_cases D:p.U=[]
                ·have a4:(p.U.length:Int)=0:=by rw [D];rfl
                 by_cases h5:p.k<5
                 ·have E:¬ 5<=p.k:=by omega
                  by_cases y:p.C=0
                  ·have M:(p.C != 0)=false:=by simpa using y
                   by_cases A:p.tail=[]
                   ·have J:(p.tail.length:Int)=0:=(by rw [A];rfl);have j:Hid (aV p=true):=iD p ⟨Z,Y⟩ hL hT hK hU (by first | exact .inl hm | exact .inr N) (by intro e;first | exact hX | omega) (by intro e;first | exact H | exact absurd S e) (by intro e;first | exact D | exact absurd O e) (by intro e;first | exact ⟨y,A⟩ | omega) (by first | exact y | omega);go_wp2;go_ret;exact ⟨by rw [j.out];first | rfl | simp [j.out],G.out⟩
                   ·have J:¬ (p.tail.length:Int)=0:=fun h=>A (List.eq_nil_of_length_eq_zero (by omega));have j:Hid (aV p=false):=(by unfold Hid aV;simp [E,A]);go_wp2;go_ret;exact ⟨by rw [j.out];first | rfl | simp [j.out],G.out⟩
                  ·have M:(p.C != 0)=true:=(by simpa using y);have j:Hid (aV p=false):=(by unfold Hid aV;simp [E,y]);go_wp2;go_ret;exact ⟨by rw [j.out];first | rfl | simp [j.out],G.out⟩
                 ·have E:5<=p.k:=by omega
                  by_cases y:0<=p.C
                  ·have c0:¬ p.C<0:=(by omega);have j:Hid (aV p=true):=iD p ⟨Z,Y⟩ hL hT hK hU (by first | exact .inl hm | exact .inr N) (by intro e;first | exact hX | omega) (by intro e;first | exact H | exact absurd S e) (by intro e;first | exact D | exact absurd O e) (by intro e;first | exact ⟨y,A⟩ | omega) (by first | exact y | omega);go_wp2;go_ret;exact ⟨by rw [j.out];first | rfl | simp [y],G.out⟩
                  ·have c0:p.C<0:=(by omega);have j:Hid (aV p=false):=(by unfold Hid aV;simp [y]);go_wp2;go_ret;exact ⟨by rw [j.out];first | rfl | simp [y],G.out⟩
                ·have a4:¬ (p.U.length:Int)=0:=fun h=>D (List.eq_nil_of_length_eq_zero (by omega));have j:Hid (aV p=false):=(by unfold Hid aV;simp [O,D]);go_wp2;go_ret;exact ⟨by rw [j.out];first | rfl | simp [j.out],G.out⟩
              ·have b9:¬ (p.X.length:Int)=0:=fun h=>H (List.eq_nil_of_length_eq_zero (by omega));have j:Hid (aV p=false):=(by unfold Hid aV;simp [S,H]);go_wp2;go_ret;exact ⟨by rw [j.out];first | rfl | simp [j.out],G.out⟩
            ·have d0:¬ (p.key.length:Int)=0:=fun h=>N (List.eq_nil_of_length_eq_zero (by omega));have j:Hid (aV p=false):=(by unfold Hid aV;simp [hm,N]);go_wp2;go_ret;exact ⟨by rw [j.out];first | rfl | simp [j.out],G.out⟩
 ·have j:Hid (aV p=false):=by unfold Hid aV;rw [decide_eq_false hr];rfl
  by_cases h0:p.k<0
  ·go_enter func33,ntmps33
   go_wp2;go_ret;exact ⟨by rw [j.out];rfl,gWA⟩
  ·have h6:6<p.k:=by omega
   go_enter func33,ntmps33
   go_wp2;go_ret;exact ⟨by rw [j.out];rfl,gWA⟩
theorem eZ (p:Int) (w:World):Calls prog 153 #[.int .i64 p] w fun e w'=>e=.returned (.bool (bZ p))/\w=w':=by
 by_cases j:0<=p
 ·by_cases u:p<65536
  ·have h:Hid (bZ p=true):=by simp [Hid,bZ,j,u]
   go_enter func153,ntmps153
   go_wp2;go_ret;exact ⟨by rw [h.out];rfl,rfl⟩
  ·have h:Hid (bZ p=false):=by simp [Hid,bZ];omega
   go_enter func153,ntmps153
   go_wp2;go_ret;exact ⟨by rw [h.out];rfl,rfl⟩
 ·have h:Hid (bZ p=false):=by simp [Hid,bZ];omega
  go_enter func153,ntmps153
  go_wp2;go_ret;exact ⟨by rw [h.out];rfl,rfl⟩
end Go.Proofs.YtgifkcpdihphlaaGreatDoor
