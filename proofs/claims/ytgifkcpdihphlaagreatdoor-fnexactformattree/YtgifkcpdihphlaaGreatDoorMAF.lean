import Derived.Test.YtgifkcpdihphlaaGreatDoorMAE
set_option maxHeartbeats 16000000
set_option maxRecDepth 100000
namespace Go.Proofs.YtgifkcpdihphlaaGreatDoor
open Tryz
open Go.RowKit
attribute [-go_sem] run_index_string
theorem aDO {h:List Int} (j:Bys h) (l:List Int) (y:Bys l) (u:List UInt8) (A:(strOfNums l).toList=u):((strOfNums h).toList==u)=decide (h=l):=by
 rw [<- A];exact aCj j y
theorem aGx {l:List Int} (h:l.all (fun z=>decide (0<=z/\z<=255))=true):Bys l:=fun z j=>by
 have:=List.all_eq_true.1 h z j;simpa using this
theorem rI {a u:List UInt8} {b:Bool} (h:(a==u)=b):(a=u)=(b=true):=by
 rw [<- h];simp
theorem xL {zs:List Int} (h:zs.all (fun c=>!isE c)=true):zs.any isE=false:=by
 rw [List.any_eq_false];intro x j;have:=List.all_eq_true.1 h x j;simpa using this
theorem aLF (zs:List Int) (k:Nat) (j:k<zs.length) (E:(zs.take k).all (fun c=>!isE c)=true) (A:isE (zs[k]?.getD 0)=true) :
  zs.any isE=true/\zs.takeWhile (fun c=>!isE c)=zs.take k/\(zs.dropWhile (fun c=>!isE c)).tail=zs.drop (k+1):=by
 have y:zs=zs.take k++zs[k]::zs.drop (k+1):=by
  conv=>lhs;rw [<- List.take_append_drop k zs,List.drop_eq_getElem_cons j]
 have h:isE zs[k]=true:=(by simpa [j] using A);have u:=qF (p:=fun c=>!isE c) (a:=zs.take k) (c:=zs[k]) (b:=zs.drop (k+1)) (fun x D=>List.all_eq_true.1 E x D) (by simp [h]);rw [<- y] at u;refine ⟨?_,u.1,by rw [u.2];rfl⟩;rw [List.any_eq_true];exact ⟨zs[k],List.getElem_mem j,h⟩
theorem pP (zs:List Int) (w:World) (hb:Bys zs) (hl:zs.length<=1048576) :
  Calls prog 102 #[.string (strOfNums zs)] w fun e w'=>e=.returned (.bool (dM zs))/\w=w':=by
 have h0:∀ (x:Bool) (w:World),(Op.unary .not (.bool x)).run prog w=.ok (.bool (!x)) w:=fun _ _=>rfl;have h4:(strOfNums zs).size=zs.length:=strOfNums_size zs;have eI:=aDO hb oO (aGx (by decide)) [73,110,102,105,110,105,116,121] (by rw [fG];rfl);have eN:=aDO hb nan (aGx (by decide)) [78,97,78] (by rw [fG];rfl);have fI:=rI eI;have fN:=rI eN
 by_cases hi:zs=oO
 ·have HV:Hid (dM zs=true):=(by rw [Hid];unfold dM;rw [if_pos (.inl hi)]);rw [decide_eq_true hi] at eI fI;clear hi fN
  go_enter func102,ntmps102
  go_wp2;go_ret;exact ⟨by rw [HV.out];rfl,rfl⟩
 rw [decide_eq_false hi] at eI fI
 by_cases hn:zs=nan
 ·have HV:Hid (dM zs=true):=(by rw [Hid];unfold dM;rw [if_pos (.inr hn)]);rw [decide_eq_true hn] at eN fN;clear hi hn
  go_enter func102,ntmps102
  go_wp2;go_ret;exact ⟨by rw [HV.out];rfl,rfl⟩
 rw [decide_eq_false hn] at eN fN
 have HU:Hid (dM zs=if 2<zs.length/\zs[0]?.getD 0=48/\isX (zs[1]?.getD 0)=true then (zs.drop 2).all eK
  else if zs.any isE then cN (zs.takeWhile (fun c=>!isE c))&&oK (zs.dropWhile (fun c=>!isE c)).tail else cN zs):=by
  rw [Hid];unfold dM;rw [if_neg (by simp [hi,hn])]
 clear hi hn;simp only [Bool.false_eq_true,eq_iff_iff,iff_false] at fI fN;have HM:=aB (wL zs w hb hl);have HK:=aB (fun k:Nat=>wL (zs.take k) w (fun z j=>hb z (List.mem_of_mem_take j)) (by rw [List.length_take];omega))
 by_cases h2:2<zs.length
 ·have f7:=fS hb (fun e=>by rw [e] at h2;simp at h2) w;have d7:=qV hb (k:=1) (by omega) w;rw [show ((1:Nat):Int)=1 from rfl] at d7;have b0:=hb.get 0;have b1:=hb.get 1
  have b3:Hid (¬ (zs[0]?.getD 0=48/\isX (zs[1]?.getD 0)=true)->dM zs=if zs.any isE then cN (zs.takeWhile (fun c=>!isE c))&&oK (zs.dropWhile (fun c=>!isE c)).tail else cN zs):=by
   intro h;rw [HU.out,if_neg (fun h'=>h h'.2)]
  have b5:Hid ((zs[0]?.getD 0=48/\isX (zs[1]?.getD 0)=true)->dM zs=(zs.drop 2).all eK):=by
   intro h;rw [HU.out,if_pos ⟨h2,h⟩]
  clear HU;generalize zs[0]?.getD 0=a0 at f7 b0 b3 b5;generalize zs[1]?.getD 0=a1 at d7 b1 b3 b5;obtain ⟨h3,h1⟩:=b0;obtain ⟨h8,h6⟩:=b1
  by_cases b4:a0=48
  ·have g0:(a0==48)=true:=by simp [b4]
   by_cases hx:a1=120\/a1=88
   ·have HV:=aB (b5.out ⟨b4,by simp [isX,hx]⟩)
    have x3:(strOfNums zs).extract 2 zs.length=strOfNums (zs.drop 2):=by
     rw [kS,List.take_of_length_le (by rw [List.length_drop];omega)]
    have HH:=aB (aE3 (zs.drop 2) w (fun z j=>hb z (List.mem_of_mem_drop j)) (by rw [List.length_drop];omega));rw [show decide (0<(zs.drop 2).length)=true by simp;omega,Bool.and_true] at HH;clear b3 b5 b4;generalize (zs.drop 2).all eK=ah at HH HV;rcases hx with rfl | rfl
    all_goals
     go_enter func102,ntmps102
     go_wp2_with fail
     refine HH.out.mono ?_;rintro e w' ⟨rfl,rfl⟩;go_wp2;go_ret;exact ⟨by rw [HV.out];rfl,rfl⟩
   ·have HX:=aB (b3.out (fun h=>hx (by simpa [isX] using h.2)));have g1:(a1==120)=false:=(by simp;omega);have g2:(a1==88)=false:=(by simp;omega);clear b3 b5 b4 hx
    go_enter func102,ntmps102
    go_wp2
    go_loopw [3] (fun i wr=>∃ k:Nat,k<=zs.length/\i=.int .i64 k/\(zs.take k).all (fun c=>!isE c)=true/\w=wr)
     (fun i _=>zs.length - (intOf i).toNat)
    case atStart=>exact ⟨0,Nat.zero_le _,rfl,rfl,rfl⟩
    case round=>
     obtain ⟨k,hk,rfl,A,rfl⟩:=hrel
     by_cases a8:k<zs.length
     ·have a5:=aB (lF zs (fun c=>!isE c) k a8 A);have N:=aB (aLF zs k a8 A);have b7:=qV hb a8 w;have Z:=hb.get k;generalize zs[k]?.getD 0=c at b7 a5 N Z;obtain ⟨d3,d4⟩:=Z;cases hE:isE c
      ·have HT:Hid ((zs.take (k+1)).all (fun c=>!isE c)=true):=a5.out (by simp [hE]);have c1:(c==101)=false:=(by simp [isE] at hE;simp;omega);have c2:(c==69)=false:=(by simp [isE] at hE;simp;omega);clear a5 N A;go_wp2
       go_roundw
       case rel=>exact ⟨k+1,by omega,by go_num,HT.out,trivial⟩
       case measure=>simp [intOf];omega
      ·obtain ⟨u1,u2,u3⟩:=N.out hE;have HV:Hid (dM zs=(cN (zs.take k)&&oK (zs.drop (k+1)))):=(by rw [Hid,HX.out,u1,if_pos rfl,u2,u3]);have x1:(strOfNums zs).extract 0 k=strOfNums (zs.take k):=by rw [kS];simp
       have x2:(strOfNums zs).extract (k+1) zs.length=strOfNums (zs.drop (k+1)):=by
        rw [kS,List.take_of_length_le (by rw [List.length_drop];omega)]
       have y:Bys (zs.drop (k+1)):=fun z j=>hb z (List.mem_of_mem_drop j);have E:(zs.drop (k+1)).length<=1048576:=(by rw [List.length_drop];omega);have u:=aB (HK.out k);clear a5 N u1 u2 u3 A;generalize zs.drop (k+1)=ex at x2 HV y E;generalize cN (zs.take k)=mb at HV u;generalize strOfNums (zs.take k)=mz at x1 u;have b8:c=101\/c=69:=(by simpa [isE] using hE);have c5:(strOfNums ex).size=ex.length:=strOfNums_size ex
       have O:∀ t:List Int,ex.drop 1=t->(strOfNums ex).extract 1 ex.length=strOfNums t:=fun t ht=>by
        rw [kS,List.take_of_length_le (by rw [List.length_drop];omega),ht]
       clear hE;rcases b8 with rfl | rfl
       all_goals
        rcases tF ex with ⟨t,M,D⟩ | ⟨t,M,L,D⟩ | ⟨L,S,D⟩
        ·have j:ex≠[]:=(by rw [M];simp);have e0:(strOfNums ex).toList.isEmpty=false:=(by rw [dR,decide_eq_false j]);have J:=fS y j w;rw [show ex[0]?.getD 0=43 by rw [M];rfl] at J;have xs:=O t (by rw [M];rfl);have b6:1<=ex.length:=(by rw [M];simp);have U:Bys t:=fun z j=>y z (by rw [M];simp [j]);have H:t.length<=1048576:=(by rw [M] at E;simp at E;omega);have Y:=aB (bU t w U H);have e1:=dR t;have X:Hid (dM zs=(mb&&(decide (t≠[])&&aW t))):=(by rw [Hid,HV.out];unfold oK;rw [D]);clear j M D O y E U
         by_cases j:t=[]
         ·rw [decide_eq_true j] at e1;have G:Hid (dM zs=false):=(by rw [Hid,X.out,j];cases mb<;>rfl);clear j;cases mb
          all_goals
           go_wp2_with fail
           refine (u.out).mono ?_;rintro e w' ⟨rfl,rfl⟩;go_wp2;go_ret;exact ⟨by rw [G.out];rfl,rfl⟩
         ·rw [decide_eq_false j] at e1;have G:Hid (dM zs=(mb&&aW t)):=(by rw [Hid,X.out,decide_eq_true j];simp);clear j X;cases mb
          ·clear Y
           go_wp2_with fail
           refine (u.out).mono ?_;rintro e w' ⟨rfl,rfl⟩;go_wp2;go_ret;exact ⟨by rw [G.out];rfl,rfl⟩
          ·generalize aW t=ad at Y G
           go_wp2_with fail
           refine (u.out).mono ?_;rintro e w' ⟨rfl,rfl⟩
           go_wp2_with fail
           refine (Y.out).mono ?_;rintro e w' ⟨rfl,rfl⟩;go_wp2;go_ret;exact ⟨by rw [G.out];rfl,rfl⟩
        ·have j:ex≠[]:=(by rw [M];simp);have e0:(strOfNums ex).toList.isEmpty=false:=(by rw [dR,decide_eq_false j]);have J:=fS y j w;rw [show ex[0]?.getD 0=45 by rw [M];rfl] at J;have xs:=O t (by rw [M];rfl);have b6:1<=ex.length:=(by rw [M];simp);have U:Bys t:=fun z j=>y z (by rw [M];simp [j]);have H:t.length<=1048576:=(by rw [M] at E;simp at E;omega);have Y:=aB (bU t w U H);have e1:=dR t;have X:Hid (dM zs=(mb&&(decide (t≠[])&&aW t))):=(by rw [Hid,HV.out];unfold oK;rw [D]);clear j M D O y E U L
         by_cases j:t=[]
         ·rw [decide_eq_true j] at e1;have G:Hid (dM zs=false):=(by rw [Hid,X.out,j];cases mb<;>rfl);clear j;cases mb
          all_goals
           go_wp2_with fail
           refine (u.out).mono ?_;rintro e w' ⟨rfl,rfl⟩;go_wp2;go_ret;exact ⟨by rw [G.out];rfl,rfl⟩
         ·rw [decide_eq_false j] at e1;have G:Hid (dM zs=(mb&&aW t)):=(by rw [Hid,X.out,decide_eq_true j];simp);clear j X;cases mb
          ·clear Y
           go_wp2_with fail
           refine (u.out).mono ?_;rintro e w' ⟨rfl,rfl⟩;go_wp2;go_ret;exact ⟨by rw [G.out];rfl,rfl⟩
          ·generalize aW t=ad at Y G
           go_wp2_with fail
           refine (u.out).mono ?_;rintro e w' ⟨rfl,rfl⟩
           go_wp2_with fail
           refine (Y.out).mono ?_;rintro e w' ⟨rfl,rfl⟩;go_wp2;go_ret;exact ⟨by rw [G.out];rfl,rfl⟩
        ·have H:=E;have Y:=aB (bU ex w y H);have X:Hid (dM zs=(mb&&(decide (ex≠[])&&aW ex))):=(by rw [Hid,HV.out];unfold oK;rw [D]);have e1:=dR ex
         by_cases j:ex=[]
         ·rw [decide_eq_true j] at e1;have G:Hid (dM zs=false):=(by rw [Hid,X.out,j];cases mb<;>rfl);clear j D O L S;cases mb
          all_goals
           go_wp2_with fail
           refine (u.out).mono ?_;rintro e w' ⟨rfl,rfl⟩;go_wp2;go_ret;exact ⟨by rw [G.out];rfl,rfl⟩
         ·rw [decide_eq_false j] at e1;have J:=fS y j w;have Z:=y.get 0
          have s1:(ex[0]?.getD 0==43)=false:=by
           cases ex with
           | nil=>exact absurd rfl j
           | cons a r=>simp;exact fun h=>L ⟨r,by rw [h];rfl⟩
          have s2:(ex[0]?.getD 0==45)=false:=by
           cases ex with
           | nil=>exact absurd rfl j
           | cons a r=>simp;exact fun h=>S ⟨r,by rw [h];rfl⟩
          have G:Hid (dM zs=(mb&&aW ex)):=(by rw [Hid,X.out,decide_eq_true j];simp);clear j D O L S X;generalize ex[0]?.getD 0=c0 at J Z s1 s2;obtain ⟨d8,c9⟩:=Z;cases mb
          ·clear Y
           go_wp2_with fail
           refine (u.out).mono ?_;rintro e w' ⟨rfl,rfl⟩;go_wp2;go_ret;exact ⟨by rw [G.out];rfl,rfl⟩
          ·generalize aW ex=ad at Y G
           go_wp2_with fail
           refine (u.out).mono ?_;rintro e w' ⟨rfl,rfl⟩
           go_wp2_with fail
           refine (Y.out).mono ?_;rintro e w' ⟨rfl,rfl⟩;go_wp2;go_ret;exact ⟨by rw [G.out];rfl,rfl⟩
     ·have a7:zs.all (fun c=>!isE c)=true:=(by rwa [List.take_of_length_le (by omega)] at A);have HV:Hid (dM zs=cN zs):=(by rw [Hid,HX.out,xL a7];simp);clear A a7
      go_wp2_with fail
      refine HM.out.mono ?_;rintro e w' ⟨rfl,rfl⟩;go_wp2;go_ret;exact ⟨by rw [HV.out];rfl,rfl⟩
  ·have HX:=aB (b3.out (fun h=>b4 h.1));have g0:(a0==48)=false:=(by simp [b4]);clear b3 b5 b4
   go_enter func102,ntmps102
   go_wp2
   go_loopw [3] (fun i wr=>∃ k:Nat,k<=zs.length/\i=.int .i64 k/\(zs.take k).all (fun c=>!isE c)=true/\w=wr)
    (fun i _=>zs.length - (intOf i).toNat)
   case atStart=>exact ⟨0,Nat.zero_le _,rfl,rfl,rfl⟩
   case round=>
    obtain ⟨k,hk,rfl,A,rfl⟩:=hrel
    by_cases a8:k<zs.length
    ·have a5:=aB (lF zs (fun c=>!isE c) k a8 A);have N:=aB (aLF zs k a8 A);have b7:=qV hb a8 w;have Z:=hb.get k;generalize zs[k]?.getD 0=c at b7 a5 N Z;obtain ⟨d3,d4⟩:=Z;cases hE:isE c
     ·have HT:Hid ((zs.take (k+1)).all (fun c=>!isE c)=true):=a5.out (by simp [hE]);have c1:(c==101)=false:=(by simp [isE] at hE;simp;omega);have c2:(c==69)=false:=(by simp [isE] at hE;simp;omega);clear a5 N A;go_wp2
      go_roundw
      case rel=>exact ⟨k+1,by omega,by go_num,HT.out,trivial⟩
      case measure=>simp [intOf];omega
     ·obtain ⟨u1,u2,u3⟩:=N.out hE;have HV:Hid (dM zs=(cN (zs.take k)&&oK (zs.drop (k+1)))):=(by rw [Hid,HX.out,u1,if_pos rfl,u2,u3]);have x1:(strOfNums zs).extract 0 k=strOfNums (zs.take k):=by rw [kS];simp
      have x2:(strOfNums zs).extract (k+1) zs.length=strOfNums (zs.drop (k+1)):=by
       rw [kS,List.take_of_length_le (by rw [List.length_drop];omega)]
      have y:Bys (zs.drop (k+1)):=fun z j=>hb z (List.mem_of_mem_drop j);have E:(zs.drop (k+1)).length<=1048576:=(by rw [List.length_drop];omega);have u:=aB (HK.out k);clear a5 N u1 u2 u3 A;generalize zs.drop (k+1)=ex at x2 HV y E;generalize cN (zs.take k)=mb at HV u;generalize strOfNums (zs.take k)=mz at x1 u;have b8:c=101\/c=69:=(by simpa [isE] using hE);have c5:(strOfNums ex).size=ex.length:=strOfNums_size ex
      have O:∀ t:List Int,ex.drop 1=t->(strOfNums ex).extract 1 ex.length=strOfNums t:=fun t ht=>by
       rw [kS,List.take_of_length_le (by rw [List.length_drop];omega),ht]
      clear hE;rcases b8 with rfl | rfl
      all_goals
       rcases tF ex with ⟨t,M,D⟩ | ⟨t,M,L,D⟩ | ⟨L,S,D⟩
       ·have j:ex≠[]:=(by rw [M];simp);have e0:(strOfNums ex).toList.isEmpty=false:=(by rw [dR,decide_eq_false j]);have J:=fS y j w;rw [show ex[0]?.getD 0=43 by rw [M];rfl] at J;have xs:=O t (by rw [M];rfl);have b6:1<=ex.length:=(by rw [M];simp);have U:Bys t:=fun z j=>y z (by rw [M];simp [j]);have H:t.length<=1048576:=(by rw [M] at E;simp at E;omega);have Y:=aB (bU t w U H);have e1:=dR t;have X:Hid (dM zs=(mb&&(decide (t≠[])&&aW t))):=(by rw [Hid,HV.out];unfold oK;rw [D]);clear j M D O y E U
        by_cases j:t=[]
        ·rw [decide_eq_true j] at e1;have G:Hid (dM zs=false):=(by rw [Hid,X.out,j];cases mb<;>rfl);clear j;cases mb
         all_goals
          go_wp2_with fail
          refine (u.out).mono ?_;rintro e w' ⟨rfl,rfl⟩;go_wp2;go_ret;exact ⟨by rw [G.out];rfl,rfl⟩
        ·rw [decide_eq_false j] at e1;have G:Hid (dM zs=(mb&&aW t)):=(by rw [Hid,X.out,decide_eq_true j];simp);clear j X;cases mb
         ·clear Y
          go_wp2_with fail
          refine (u.out).mono ?_;rintro e w' ⟨rfl,rfl⟩;go_wp2;go_ret;exact ⟨by rw [G.out];rfl,rfl⟩
         ·generalize aW t=ad at Y G
          go_wp2_with fail
          refine (u.out).mono ?_;rintro e w' ⟨rfl,rfl⟩
          go_wp2_with fail
          refine (Y.out).mono ?_;rintro e w' ⟨rfl,rfl⟩;go_wp2;go_ret;exact ⟨by rw [G.out];rfl,rfl⟩
       ·have j:ex≠[]:=(by rw [M];simp);have e0:(strOfNums ex).toList.isEmpty=false:=(by rw [dR,decide_eq_false j]);have J:=fS y j w;rw [show ex[0]?.getD 0=45 by rw [M];rfl] at J;have xs:=O t (by rw [M];rfl);have b6:1<=ex.length:=(by rw [M];simp);have U:Bys t:=fun z j=>y z (by rw [M];simp [j]);have H:t.length<=1048576:=(by rw [M] at E;simp at E;omega);have Y:=aB (bU t w U H);have e1:=dR t;have X:Hid (dM zs=(mb&&(decide (t≠[])&&aW t))):=(by rw [Hid,HV.out];unfold oK;rw [D]);clear j M D O y E U L
        by_cases j:t=[]
        ·rw [decide_eq_true j] at e1;have G:Hid (dM zs=false):=(by rw [Hid,X.out,j];cases mb<;>rfl);clear j;cases mb
         all_goals
          go_wp2_with fail
          refine (u.out).mono ?_;rintro e w' ⟨rfl,rfl⟩;go_wp2;go_ret;exact ⟨by rw [G.out];rfl,rfl⟩
        ·rw [decide_eq_false j] at e1;have G:Hid (dM zs=(mb&&aW t)):=(by rw [Hid,X.out,decide_eq_true j];simp);clear j X;cases mb
         ·clear Y
          go_wp2_with fail
          refine (u.out).mono ?_;rintro e w' ⟨rfl,rfl⟩;go_wp2;go_ret;exact ⟨by rw [G.out];rfl,rfl⟩
         ·generalize aW t=ad at Y G
          go_wp2_with fail
          refine (u.out).mono ?_;rintro e w' ⟨rfl,rfl⟩
          go_wp2_with fail
          refine (Y.out).mono ?_;rintro e w' ⟨rfl,rfl⟩;go_wp2;go_ret;exact ⟨by rw [G.out];rfl,rfl⟩
       ·have H:=E;have Y:=aB (bU ex w y H);have X:Hid (dM zs=(mb&&(decide (ex≠[])&&aW ex))):=(by rw [Hid,HV.out];unfold oK;rw [D]);have e1:=dR ex
        by_cases j:ex=[]
        ·rw [decide_eq_true j] at e1;have G:Hid (dM zs=false):=(by rw [Hid,X.out,j];cases mb<;>rfl);clear j D O L S;cases mb
         all_goals
          go_wp2_with fail
          refine (u.out).mono ?_;rintro e w' ⟨rfl,rfl⟩;go_wp2;go_ret;exact ⟨by rw [G.out];rfl,rfl⟩
        ·rw [decide_eq_false j] at e1;have J:=fS y j w;have Z:=y.get 0
         have s1:(ex[0]?.getD 0==43)=false:=by
          cases ex with
          | nil=>exact absurd rfl j
          | cons a r=>simp;exact fun h=>L ⟨r,by rw [h];rfl⟩
         have s2:(ex[0]?.getD 0==45)=false:=by
          cases ex with
          | nil=>exact absurd rfl j
          | cons a r=>simp;exact fun h=>S ⟨r,by rw [h];rfl⟩
         have G:Hid (dM zs=(mb&&aW ex)):=(by rw [Hid,X.out,decide_eq_true j];simp);clear j D O L S X;generalize ex[0]?.getD 0=c0 at J Z s1 s2;obtain ⟨d8,c9⟩:=Z;cases mb
         ·clear Y
          go_wp2_with fail
          refine (u.out).mono ?_;rintro e w' ⟨rfl,rfl⟩;go_wp2;go_ret;exact ⟨by rw [G.out];rfl,rfl⟩
         ·generalize aW ex=ad at Y G
          go_wp2_with fail
          refine (u.out).mono ?_;rintro e w' ⟨rfl,rfl⟩
          go_wp2_with fail
          refine (Y.out).mono ?_;rintro e w' ⟨rfl,rfl⟩;go_wp2;go_ret;exact ⟨by rw [G.out];rfl,rfl⟩
    ·have a7:zs.all (fun c=>!isE c)=true:=(by rwa [List.take_of_length_le (by omega)] at A);have HV:Hid (dM zs=cN zs):=(by rw [Hid,HX.out,xL a7];simp);clear A a7
     go_wp2_with fail
     refine HM.out.mono ?_;rintro e w' ⟨rfl,rfl⟩;go_wp2;go_ret;exact ⟨by rw [HV.out];rfl,rfl⟩
 ·have HX:Hid (dM zs=if zs.any isE then cN (zs.takeWhile (fun c=>!isE c))&&oK (zs.dropWhile (fun c=>!isE c)).tail else cN zs):=(by rw [Hid,HU.out,if_neg (fun h=>h2 h.1)]);clear HU
  go_enter func102,ntmps102
  go_wp2
  go_loopw [3] (fun i wr=>∃ k:Nat,k<=zs.length/\i=.int .i64 k/\(zs.take k).all (fun c=>!isE c)=true/\w=wr)
   (fun i _=>zs.length - (intOf i).toNat)
  case atStart=>exact ⟨0,Nat.zero_le _,rfl,rfl,rfl⟩
  case round=>
   obtain ⟨k,hk,rfl,A,rfl⟩:=hrel
   by_cases a8:k<zs.length
   ·have a5:=aB (lF zs (fun c=>!isE c) k a8 A);have N:=aB (aLF zs k a8 A);have b7:=qV hb a8 w;have Z:=hb.get k;generalize zs[k]?.getD 0=c at b7 a5 N Z;obtain ⟨d3,d4⟩:=Z;cases hE:isE c
    ·have HT:Hid ((zs.take (k+1)).all (fun c=>!isE c)=true):=a5.out (by simp [hE]);have c1:(c==101)=false:=(by simp [isE] at hE;simp;omega);have c2:(c==69)=false:=(by simp [isE] at hE;simp;omega);clear a5 N A;go_wp2
     go_roundw
     case rel=>exact ⟨k+1,by omega,by go_num,HT.out,trivial⟩
     case measure=>simp [intOf];omega
    ·obtain ⟨u1,u2,u3⟩:=N.out hE;have HV:Hid (dM zs=(cN (zs.take k)&&oK (zs.drop (k+1)))):=(by rw [Hid,HX.out,u1,if_pos rfl,u2,u3]);have x1:(strOfNums zs).extract 0 k=strOfNums (zs.take k):=by rw [kS];simp
     have x2:(strOfNums zs).extract (k+1) zs.length=strOfNums (zs.drop (k+1)):=by
      rw [kS,List.take_of_length_le (by rw [List.length_drop];omega)]
     have y:Bys (zs.drop (k+1)):=fun z j=>hb z (List.mem_of_mem_drop j);have E:(zs.drop (k+1)).length<=1048576:=(by rw [List.length_drop];omega);have u:=aB (HK.out k);clear a5 N u1 u2 u3 A;generalize zs.drop (k+1)=ex at x2 HV y E;generalize cN (zs.take k)=mb at HV u;generalize strOfNums (zs.take k)=mz at x1 u;have b8:c=101\/c=69:=(by simpa [isE] using hE);have c5:(strOfNums ex).size=ex.length:=strOfNums_size ex
     have O:∀ t:List Int,ex.drop 1=t->(strOfNums ex).extract 1 ex.length=strOfNums t:=fun t ht=>by
      rw [kS,List.take_of_length_le (by rw [List.length_drop];omega),ht]
     clear hE;rcases b8 with rfl | rfl
     all_goals
      rcases tF ex with ⟨t,M,D⟩ | ⟨t,M,L,D⟩ | ⟨L,S,D⟩
      ·have j:ex≠[]:=(by rw [M];simp);have e0:(strOfNums ex).toList.isEmpty=false:=(by rw [dR,decide_eq_false j]);have J:=fS y j w;rw [show ex[0]?.getD 0=43 by rw [M];rfl] at J;have xs:=O t (by rw [M];rfl);have b6:1<=ex.length:=(by rw [M];simp);have U:Bys t:=fun z j=>y z (by rw [M];simp [j]);have H:t.length<=1048576:=(by rw [M] at E;simp at E;omega);have Y:=aB (bU t w U H);have e1:=dR t;have X:Hid (dM zs=(mb&&(decide (t≠[])&&aW t))):=(by rw [Hid,HV.out];unfold oK;rw [D]);clear j M D O y E U
       by_cases j:t=[]
       ·rw [decide_eq_true j] at e1;have G:Hid (dM zs=false):=(by rw [Hid,X.out,j];cases mb<;>rfl);clear j;cases mb
        all_goals
         go_wp2_with fail
         refine (u.out).mono ?_;rintro e w' ⟨rfl,rfl⟩;go_wp2;go_ret;exact ⟨by rw [G.out];rfl,rfl⟩
       ·rw [decide_eq_false j] at e1;have G:Hid (dM zs=(mb&&aW t)):=(by rw [Hid,X.out,decide_eq_true j];simp);clear j X;cases mb
        ·clear Y
         go_wp2_with fail
         refine (u.out).mono ?_;rintro e w' ⟨rfl,rfl⟩;go_wp2;go_ret;exact ⟨by rw [G.out];rfl,rfl⟩
        ·generalize aW t=ad at Y G
         go_wp2_with fail
         refine (u.out).mono ?_;rintro e w' ⟨rfl,rfl⟩
         go_wp2_with fail
         refine (Y.out).mono ?_;rintro e w' ⟨rfl,rfl⟩;go_wp2;go_ret;exact ⟨by rw [G.out];rfl,rfl⟩
      ·have j:ex≠[]:=(by rw [M];simp);have e0:(strOfNums ex).toList.isEmpty=false:=(by rw [dR,decide_eq_false j]);have J:=fS y j w;rw [show ex[0]?.getD 0=45 by rw [M];rfl] at J;have xs:=O t (by rw [M];rfl);have b6:1<=ex.length:=(by rw [M];simp);have U:Bys t:=fun z j=>y z (by rw [M];simp [j]);have H:t.length<=1048576:=(by rw [M] at E;simp at E;omega);have Y:=aB (bU t w U H);have e1:=dR t;have X:Hid (dM zs=(mb&&(decide (t≠[])&&aW t))):=(by rw [Hid,HV.out];unfold oK;rw [D]);clear j M D O y E U L
       by_cases j:t=[]
       ·rw [decide_eq_true j] at e1;have G:Hid (dM zs=false):=(by rw [Hid,X.out,j];cases mb<;>rfl);clear j;cases mb
        all_goals
         go_wp2_with fail
         refine (u.out).mono ?_;rintro e w' ⟨rfl,rfl⟩;go_wp2;go_ret;exact ⟨by rw [G.out];rfl,rfl⟩
       ·rw [decide_eq_false j] at e1;have G:Hid (dM zs=(mb&&aW t)):=(by rw [Hid,X.out,decide_eq_true j];simp);clear j X;cases mb
        ·clear Y
         go_wp2_with fail
         refine (u.out).mono ?_;rintro e w' ⟨rfl,rfl⟩;go_wp2;go_ret;exact ⟨by rw [G.out];rfl,rfl⟩
        ·generalize aW t=ad at Y G
         go_wp2_with fail
         refine (u.out).mono ?_;rintro e w' ⟨rfl,rfl⟩
         go_wp2_with fail
         refine (Y.out).mono ?_;rintro e w' ⟨rfl,rfl⟩;go_wp2;go_ret;exact ⟨by rw [G.out];rfl,rfl⟩
      ·have H:=E;have Y:=aB (bU ex w y H);have X:Hid (dM zs=(mb&&(decide (ex≠[])&&aW ex))):=(by rw [Hid,HV.out];unfold oK;rw [D]);have e1:=dR ex
       by_cases j:ex=[]
       ·rw [decide_eq_true j] at e1;have G:Hid (dM zs=false):=(by rw [Hid,X.out,j];cases mb<;>rfl);clear j D O L S;cases mb
        all_goals
         go_wp2_with fail
         refine (u.out).mono ?_;rintro e w' ⟨rfl,rfl⟩;go_wp2;go_ret;exact ⟨by rw [G.out];rfl,rfl⟩
       ·rw [decide_eq_false j] at e1;have J:=fS y j w;have Z:=y.get 0
        have s1:(ex[0]?.getD 0==43)=false:=by
         cases ex with
         | nil=>exact absurd rfl j
         | cons a r=>simp;exact fun h=>L ⟨r,by rw [h];rfl⟩
        have s2:(ex[0]?.getD 0==45)=false:=by
         cases ex with
         | nil=>exact absurd rfl j
         | cons a r=>simp;exact fun h=>S ⟨r,by rw [h];rfl⟩
        have G:Hid (dM zs=(mb&&aW ex)):=(by rw [Hid,X.out,decide_eq_true j];simp);clear j D O L S X;generalize ex[0]?.getD 0=c0 at J Z s1 s2;obtain ⟨d8,c9⟩:=Z;cases mb
        ·clear Y
         go_wp2_with fail
         refine (u.out).mono ?_;rintro e w' ⟨rfl,rfl⟩;go_wp2;go_ret;exact ⟨by rw [G.out];rfl,rfl⟩
        ·generalize aW ex=ad at Y G
         go_wp2_with fail
         refine (u.out).mono ?_;rintro e w' ⟨rfl,rfl⟩
         go_wp2_with fail
         refine (Y.out).mono ?_;rintro e w' ⟨rfl,rfl⟩;go_wp2;go_ret;exact ⟨by rw [G.out];rfl,rfl⟩
   ·have a7:zs.all (fun c=>!isE c)=true:=(by rwa [List.take_of_length_le (by omega)] at A);have HV:Hid (dM zs=cN zs):=(by rw [Hid,HX.out,xL a7];simp);clear A a7
    go_wp2_with fail
    refine HM.out.mono ?_;rintro e w' ⟨rfl,rfl⟩;go_wp2;go_ret;exact ⟨by rw [HV.out];rfl,rfl⟩
theorem xC (v:Value) (zs:List Int) (w:World) (hv:RdB w.heap.size w v zs) (J:Bys zs) (M:zs.length<=1048576) :
  Calls prog 63 #[v] w fun e w'=>e=.returned (.bool (oC zs))/\w=w':=by
 have a5:=qB hv;have a4:(strOfNums zs).size=zs.length:=strOfNums_size zs;have O:=dR zs
 have G:∀ t:List Int,zs.drop 1=t->(strOfNums zs).extract 1 zs.length=strOfNums t:=fun t Y=>by
  rw [kS,List.take_of_length_le (by rw [List.length_drop];omega),Y]
 obtain ⟨a,cap,rfl,_⟩:=hv;rcases tF zs with ⟨t,D,u⟩ | ⟨t,D,A,u⟩ | ⟨A,H,u⟩
 ·have j:zs≠[]:=(by rw [D];simp);rw [decide_eq_false j] at O;have y:=fS J j w;rw [show zs[0]?.getD 0=43 by rw [D];rfl] at y;have xs:=G t (by rw [D];rfl);have S:1<=zs.length:=(by rw [D];simp);have L:Hid (oC zs=dM t):=(by rw [Hid];unfold oC;rw [u]);have E:=aB (pP t w (fun z j=>J z (by rw [D];simp [j])) (by rw [D] at M;simp at M;omega));clear j D u G
  go_enter func63,ntmps63
  go_wp2_with fail
  refine E.out.mono ?_;rintro e w' ⟨rfl,rfl⟩;go_wp2;go_ret;exact ⟨by rw [L.out];rfl,rfl⟩
 ·have j:zs≠[]:=(by rw [D];simp);rw [decide_eq_false j] at O;have y:=fS J j w;rw [show zs[0]?.getD 0=45 by rw [D];rfl] at y;have xs:=G t (by rw [D];rfl);have S:1<=zs.length:=(by rw [D];simp);have L:Hid (oC zs=dM t):=(by rw [Hid];unfold oC;rw [u]);have E:=aB (pP t w (fun z j=>J z (by rw [D];simp [j])) (by rw [D] at M;simp at M;omega));clear j D u G A
  go_enter func63,ntmps63
  go_wp2_with fail
  refine E.out.mono ?_;rintro e w' ⟨rfl,rfl⟩;go_wp2;go_ret;exact ⟨by rw [L.out];rfl,rfl⟩
 ·have L:Hid (oC zs=dM zs):=(by rw [Hid];unfold oC;rw [u]);have E:=aB (pP zs w J M)
  by_cases j:zs=[]
  ·rw [decide_eq_true j] at O;clear j u G A H
   go_enter func63,ntmps63
   go_wp2_with fail
   refine E.out.mono ?_;rintro e w' ⟨rfl,rfl⟩;go_wp2;go_ret;exact ⟨by rw [L.out];rfl,rfl⟩
  ·rw [decide_eq_false j] at O;have y:=fS J j w;have N:=J.get 0
   have U:(zs[0]?.getD 0==43)=false:=by
    cases zs with
    | nil=>exact absurd rfl j
    | cons a r=>simp;exact fun h=>A ⟨r,by rw [h];rfl⟩
   have Z:(zs[0]?.getD 0==45)=false:=by
    cases zs with
    | nil=>exact absurd rfl j
    | cons a r=>simp;exact fun h=>H ⟨r,by rw [h];rfl⟩
   clear j u G A H;generalize zs[0]?.getD 0=c0 at y N U Z;obtain ⟨a6,X⟩:=N
   go_enter func63,ntmps63
   go_wp2_with fail
   refine E.out.mono ?_;rintro e w' ⟨rfl,rfl⟩;go_wp2;go_ret;exact ⟨by rw [L.out];rfl,rfl⟩
end Go.Proofs.YtgifkcpdihphlaaGreatDoor
