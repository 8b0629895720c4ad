import Derived.Test.YtmfehflibkokbaaGreatDoorMAX
set_option maxHeartbeats 16000000
set_option maxRecDepth 100000
namespace Go.Proofs.YtmfehflibkokbaaGreatDoor
open Go.Proofs.Tryz
open Go.RowKit
def St (sb:Nat) (w0 w:World) (s:List Int):Prop:=∃ tv zs n,n<=zs.length/\zs.drop n=s/\Sc sb w tv n/\Tx sb w tv zs/\Tab w/\0<sb/\w0.grownBy w (some sb)
section
variable {sb:Nat} {w0 w:World}
theorem eW (y r:List Int) (E:Bys y) (A:y.length<=100) (h:St sb w0 w (y++r)) :
  Calls prog 156 #[.pointer (some ⟨sb,0,none⟩),.string (strOfNums y)] w fun e w'=>e=.returned (.bool true)/\St sb w0 w' r:=by
 obtain ⟨tv,zs,n,O,J,X,M,N,G,U⟩:=h;refine (zT y E A sb n tv zs w X M O).mono ?_;rintro e w' ⟨rfl,k,g⟩;have D:y <+: zs.drop n:=(by rw [J];exact List.prefix_append _ _);rw [if_pos D] at k;have S:y.length<=zs.length - n:=(by have:=D.length_le;rwa [List.length_drop] at this);refine ⟨by rw [decide_eq_true D],tv,zs,n+y.length,by omega,?_,k,M.beside (Nat.le_refl _) g,N.row G g,G,aA U g⟩;rw [<- List.drop_drop,J,List.drop_left]
theorem fZ (y s:List Int) (E:Bys y) (D:y.length<=100) (N:¬ y <+: s) (h:St sb w0 w s) :
  Calls prog 156 #[.pointer (some ⟨sb,0,none⟩),.string (strOfNums y)] w fun e w'=>e=.returned (.bool false)/\St sb w0 w' s:=by
 obtain ⟨tv,zs,n,J,A,U,M,O,G,S⟩:=h;refine (zT y E D sb n tv zs w U M J).mono ?_;rintro e w' ⟨rfl,k,g⟩;rw [A,if_neg N] at k;exact ⟨by rw [A,decide_eq_false N],tv,zs,n,J,A,k,M.beside (Nat.le_refl _) g,O.row G g,G,aA S g⟩
def dS (P:Int->Bool):List Int->Bool
 | []=>false
 | c::_=>P c
theorem tE (s:List Int):dS aK s=gH s:=by cases s<;>rfl
theorem yI (s:List Int):dS eE s=xR s:=by cases s<;>rfl
theorem aE8 (E:Nat) (P:Int->Bool) (S:aJt E P) (U:Asc P) (s:List Int) (h:St sb w0 w s) :
  Calls prog 157 #[.pointer (some ⟨sb,0,none⟩),.func (.func E) #[] #[]] w fun e w'=>e=.returned (.bool (dS P s))/\St sb w0 w' (s.dropWhile P):=by
 obtain ⟨tv,zs,n,N,D,Y,G,M,A,X⟩:=h;refine (aGJ E P S sb n tv zs w A M Y G N).mono ?_;rintro e w' ⟨rfl,k,J,g⟩;have O:=aG4 U G.by_ (zs.length+1) n N (by omega);refine ⟨?_,tv,zs,_,J,by rw [O.1,D],k,G.beside (Nat.le_refl _) g,M.row A g,A,aA X g⟩;congr 2;rw [Bool.eq_iff_iff,decide_eq_true_eq,O.2.2.2]
 by_cases y:n<zs.length
 ·rw [<- D,List.drop_eq_getElem_cons y];simp [y,dS]
 ·rw [<- D,List.drop_of_length_le (by omega)];simp [y,dS]
theorem aIi (s:List Int) (h:St sb w0 w s) :
  Calls prog 145 #[.pointer (some ⟨sb,0,none⟩)] w fun e w'=>e=.returned (.bool (decide (s=[])))/\St sb w0 w' s:=by
 obtain ⟨tv,zs,n,J,y,D,A,E,G,M⟩:=h;refine (aAZ sb n tv zs w D A).mono ?_;rintro e w' ⟨rfl,g⟩;refine ⟨?_,tv,zs,n,J,y,D.K g,A.K g,E.K g,G,aA M (fW g)⟩;congr 2;rw [Bool.eq_iff_iff,decide_eq_true_eq,beq_iff_eq,<- y,List.drop_eq_nil_iff];omega
end
theorem aEi:aJt 171 aK:=⟨fun p W=>fE p W,fun args W=>by kernel_rfl⟩
theorem aJq:Asc aK:=fun p h=>by simp [aK] at h;omega
def aBf (wb:Bool) (s:List Int):Bool × List Int:=match s with
 | []=>(wb,[])
 | c::r=>if c=46 then (wb||gH r,r.dropWhile aK) else (wb,c::r)
theorem mU {c:Int} {s:List Int} (h:∀ r,s≠c::r):¬ [c] <+: s:=by
 rintro ⟨t,y⟩;exact h t y.symm
theorem aLP (s:List Int):(∃ r,s=[48]++r/\dF s=aBf true r)\/(∃ y,¬ [48] <+: s/\s.dropWhile aK=y/\dF s=aBf (dS aK s) y):=by
 cases s with
 | nil=>exact .inr ⟨[],by simp,rfl,rfl⟩
 | cons c r=>
   by_cases h:c=48
   ·subst h;left;exact ⟨r,rfl,by simp only [dF];rfl⟩
   ·right;refine ⟨_,mU (fun t e=>h (by simp at e;exact e.1)),rfl,?_⟩;simp only [dF,if_neg h];rfl
theorem aIo (h:Bool) (s:List Int):(∃ r A,s=[46]++r/\r.dropWhile aK=A/\aBf h s=(h||dS aK r,A))\/(¬ [46] <+: s/\aBf h s=(h,s)):=by
 cases s with
 | nil=>exact .inr ⟨by simp,rfl⟩
 | cons c r=>
   by_cases y:c=46
   ·subst y;exact .inl ⟨r,_,rfl,rfl,by simp only [aBf,if_pos,tE]⟩
   ·exact .inr ⟨mU (fun t e=>y (by simp at e;exact e.1)),by simp only [aBf,if_neg y]⟩
theorem sC (r:List Int):(∃ t,r=[43]++t/\strip r=t)\/(∃ t,r=[45]++t/\¬ [43] <+: r/\strip r=t)\/(¬ [43] <+: r/\¬ [45] <+: r/\strip r=r):=by
 cases r with
 | nil=>exact .inr (.inr ⟨by simp,by simp,rfl⟩)
 | cons c r=>
   by_cases h:c=43
   ·subst h;exact .inl ⟨r,rfl,by simp [strip,aAy]⟩
   ·by_cases y:c=45
    ·subst y;exact .inr (.inl ⟨r,rfl,mU (fun t e=>by simp at e),by simp [strip,aAy]⟩)
    ·exact .inr (.inr ⟨mU (fun t e=>h (by simp at e;exact e.1)),mU (fun t e=>y (by simp at e;exact e.1)),by simp [strip,aAy,h,y]⟩)
theorem aGZ (s:List Int):(∃ r,s=[101]++r/\iK (true,s)=(dS aK (strip r),(strip r).dropWhile aK))\/(∃ r,s=[69]++r/\¬ [101] <+: s/\iK (true,s)=(dS aK (strip r),(strip r).dropWhile aK))\/(¬ [101] <+: s/\¬ [69] <+: s/\iK (true,s)=(true,s)):=by
 cases s with
 | nil=>exact .inr (.inr ⟨by simp,by simp,rfl⟩)
 | cons c r=>
   by_cases h:c=101
   ·subst h;exact .inl ⟨r,rfl,by simp [iK,isE,tE]⟩
   ·by_cases y:c=69
    ·subst y;exact .inr (.inl ⟨r,rfl,mU (fun t e=>by simp at e),by simp [iK,isE,tE]⟩)
    ·exact .inr (.inr ⟨mU (fun t e=>h (by simp at e;exact e.1)),mU (fun t e=>y (by simp at e;exact e.1)),by simp [iK,isE,h,y]⟩)
end Go.Proofs.YtmfehflibkokbaaGreatDoor
namespace Go.Proofs.YtmfehflibkokbaaGreatDoor
open Go.Proofs.Tryz
open Go.RowKit
attribute [-go_sem] run_index_string
theorem aCV {h:List Int} (D:Bys h) (l:List Int) (A:Bys l) (u:List UInt8) (y:(strOfNums l).toList=u):((strOfNums h).toList==u)=decide (h=l):=by
 rw [<- y];exact aBT D A
theorem aF1 {l:List Int} (h:l.all (fun z=>decide (0<=z/\z<=255))=true):Bys l:=fun z y=>by
 have:=List.all_eq_true.1 h z y;simpa using this
theorem qF {a u:List UInt8} {b:Bool} (h:(a==u)=b):(a=u)=(b=true):=by
 rw [<- h];simp
theorem vQ {zs:List Int} (h:zs.all (fun c=>!isE c)=true):zs.any isE=false:=by
 rw [List.any_eq_false];intro x y;have:=List.all_eq_true.1 h x y;simpa using this
theorem aKI (zs:List Int) (k:Nat) (A:k<zs.length) (G:(zs.take k).all (fun c=>!isE c)=true) (E:isE (zs[k]?.getD 0)=true) :
  zs.any isE=true/\zs.takeWhile (fun c=>!isE c)=zs.take k/\(zs.dropWhile (fun c=>!isE c)).tail=zs.drop (k+1):=by
 have D:zs=zs.take k++zs[k]::zs.drop (k+1):=by
  conv=>lhs;rw [<- List.take_append_drop k zs,List.drop_eq_getElem_cons A]
 have h:isE zs[k]=true:=(by simpa [A] using E);have y:=oQ (p:=fun c=>!isE c) (a:=zs.take k) (c:=zs[k]) (b:=zs.drop (k+1)) (fun x J=>List.all_eq_true.1 G x J) (by simp [h]);rw [<- D] at y;refine ⟨?_,y.1,by rw [y.2];rfl⟩;rw [List.any_eq_true];exact ⟨zs[k],List.getElem_mem A,h⟩
theorem pG (zs:List Int) (w:World) (hb:Bys zs) (hl:zs.length<=1048576) :
  Calls prog 107 #[.string (strOfNums zs)] w fun e w'=>e=.returned (.bool (dI zs))/\w=w':=by
 have g7:∀ (x:Bool) (w:World),(Op.unary .not (.bool x)).run prog w=.ok (.bool (!x)) w:=fun _ _=>rfl;have h9:(strOfNums zs).size=zs.length:=strOfNums_size zs;have eI:=aCV hb nP (aF1 (by decide)) [73,110,102,105,110,105,116,121] (by rw [eZ];rfl);have eN:=aCV hb nan (aF1 (by decide)) [78,97,78] (by rw [eZ];rfl);have fI:=qF eI;have fN:=qF eN
 by_cases hi:zs=nP
 ·have HV:Hid (dI zs=true):=(by rw [Hid];unfold dI;rw [if_pos (.inl hi)]);rw [decide_eq_true hi] at eI fI;clear hi fN
  go_enter func107,ntmps107
  go_wp2;go_ret;exact ⟨by rw [HV.out];rfl,rfl⟩
 rw [decide_eq_false hi] at eI fI
 by_cases hn:zs=nan
 ·have HV:Hid (dI zs=true):=(by rw [Hid];unfold dI;rw [if_pos (.inr hn)]);rw [decide_eq_true hn] at eN fN;clear hi hn
  go_enter func107,ntmps107
  go_wp2;go_ret;exact ⟨by rw [HV.out];rfl,rfl⟩
 rw [decide_eq_false hn] at eN fN
 have HU:Hid (dI zs=if 2<zs.length/\zs[0]?.getD 0=48/\isX (zs[1]?.getD 0)=true then (zs.drop 2).all eE
  else if zs.any isE then cJ (zs.takeWhile (fun c=>!isE c))&&oA (zs.dropWhile (fun c=>!isE c)).tail else cJ zs):=by
  rw [Hid];unfold dI;rw [if_neg (by simp [hi,hn])]
 clear hi hn;simp only [Bool.false_eq_true,eq_iff_iff,iff_false] at fI fN;have HM:=aB (vE zs w hb hl);have HK:=aB (fun k:Nat=>vE (zs.take k) w (fun z y=>hb z (List.mem_of_mem_take y)) (by rw [List.length_take];omega))
 by_cases h2:2<zs.length
 ·have f7:=fG hb (fun e=>by rw [e] at h2;simp at h2) w;have d9:=qK hb (k:=1) (by omega) w;rw [show ((1:Nat):Int)=1 from rfl] at d9;have b0:=hb.get 0;have b1:=hb.get 1
  have b6:Hid (¬ (zs[0]?.getD 0=48/\isX (zs[1]?.getD 0)=true)->dI zs=if zs.any isE then cJ (zs.takeWhile (fun c=>!isE c))&&oA (zs.dropWhile (fun c=>!isE c)).tail else cJ zs):=by
   intro h;rw [HU.out,if_neg (fun h'=>h h'.2)]
  have b7:Hid ((zs[0]?.getD 0=48/\isX (zs[1]?.getD 0)=true)->dI zs=(zs.drop 2).all eE):=by
   intro h;rw [HU.out,if_pos ⟨h2,h⟩]
  clear HU;generalize zs[0]?.getD 0=a0 at f7 b0 b6 b7;generalize zs[1]?.getD 0=a1 at d9 b1 b6 b7;obtain ⟨h4,h7⟩:=b0;obtain ⟨h5,i0⟩:=b1
  by_cases b5:a0=48
  ·have g0:(a0==48)=true:=by simp [b5]
   by_cases hx:a1=120\/a1=88
   ·have HV:=aB (b7.out ⟨b5,by simp [isX,hx]⟩)
    have x3:(strOfNums zs).extract 2 zs.length=strOfNums (zs.drop 2):=by
     rw [kM,List.take_of_length_le (by rw [List.length_drop];omega)]
    have HH:=aB (aEU (zs.drop 2) w (fun z y=>hb z (List.mem_of_mem_drop y)) (by rw [List.length_drop];omega));rw [show decide (0<(zs.drop 2).length)=true by simp;omega,Bool.and_true] at HH;clear b6 b7 b5;generalize (zs.drop 2).all eE=ah at HH HV;rcases hx with rfl | rfl
    all_goals
     go_enter func107,ntmps107
     go_wp2_with fail
     refine HH.out.mono ?_;rintro e w' ⟨rfl,rfl⟩;go_wp2;go_ret;exact ⟨by rw [HV.out];rfl,rfl⟩
   ·have HX:=aB (b6.out (fun h=>hx (by simpa [isX] using h.2)));have g1:(a1==120)=false:=(by simp;omega);have g2:(a1==88)=false:=(by simp;omega);clear b6 b7 b5 hx
    go_enter func107,ntmps107
    go_wp2
    go_loopw [3] (fun i wr=>∃ k:Nat,k<=zs.length/\i=.int .i64 k/\(zs.take k).all (fun c=>!isE c)=true/\w=wr)
     (fun i _=>zs.length - (intOf i).toNat)
    case atStart=>exact ⟨0,Nat.zero_le _,rfl,rfl,rfl⟩
    case round=>
     obtain ⟨k,hk,rfl,E,rfl⟩:=hrel
     by_cases b2:k<zs.length
     ·have a7:=aB (lE zs (fun c=>!isE c) k b2 E);have X:=aB (aKI zs k b2 E);have b9:=qK hb b2 w;have a6:=hb.get k;generalize zs[k]?.getD 0=c at b9 a7 X a6;obtain ⟨c7,d8⟩:=a6;cases hE:isE c
      ·have HT:Hid ((zs.take (k+1)).all (fun c=>!isE c)=true):=a7.out (by simp [hE]);have c1:(c==101)=false:=(by simp [isE] at hE;simp;omega);have c2:(c==69)=false:=(by simp [isE] at hE;simp;omega);clear a7 X E;go_wp2
       go_roundw
       case rel=>exact ⟨k+1,by omega,by go_num,HT.out,trivial⟩
       case measure=>simp [intOf];omega
      ·obtain ⟨u1,u2,u3⟩:=X.out hE;have HV:Hid (dI zs=(cJ (zs.take k)&&oA (zs.drop (k+1)))):=(by rw [Hid,HX.out,u1,if_pos rfl,u2,u3]);have x1:(strOfNums zs).extract 0 k=strOfNums (zs.take k):=by rw [kM];simp
       have x2:(strOfNums zs).extract (k+1) zs.length=strOfNums (zs.drop (k+1)):=by
        rw [kM,List.take_of_length_le (by rw [List.length_drop];omega)]
       have D:Bys (zs.drop (k+1)):=fun z y=>hb z (List.mem_of_mem_drop y);have J:(zs.drop (k+1)).length<=1048576:=(by rw [List.length_drop];omega);have A:=aB (HK.out k);clear a7 X u1 u2 u3 E;generalize zs.drop (k+1)=ex at x2 HV D J;generalize cJ (zs.take k)=mb at HV A;generalize strOfNums (zs.take k)=mz at x1 A;have b8:c=101\/c=69:=(by simpa [isE] using hE);have d6:(strOfNums ex).size=ex.length:=strOfNums_size ex
       have Y:∀ t:List Int,ex.drop 1=t->(strOfNums ex).extract 1 ex.length=strOfNums t:=fun t ht=>by
        rw [kM,List.take_of_length_le (by rw [List.length_drop];omega),ht]
       clear hE;rcases b8 with rfl | rfl
       all_goals
        rcases sC ex with ⟨t,U,G⟩ | ⟨t,U,M,G⟩ | ⟨M,a5,G⟩
        ·have y:ex≠[]:=(by rw [U];simp);have e0:(strOfNums ex).toList.isEmpty=false:=(by rw [dL,decide_eq_false y]);have S:=fG D y w;rw [show ex[0]?.getD 0=43 by rw [U];rfl] at S;have xs:=Y t (by rw [U];rfl);have c3:1<=ex.length:=(by rw [U];simp);have a4:Bys t:=fun z y=>D z (by rw [U];simp [y]);have O:t.length<=1048576:=(by rw [U] at J;simp at J;omega);have Z:=aB (bS t w a4 O);have e1:=dL t;have HW:Hid (dI zs=(mb&&(decide (t≠[])&&aV t))):=(by rw [Hid,HV.out];unfold oA;rw [G]);clear y U G Y D J a4
         by_cases y:t=[]
         ·rw [decide_eq_true y] at e1;have N:Hid (dI zs=false):=(by rw [Hid,HW.out,y];cases mb<;>rfl);clear y;cases mb
          all_goals
           go_wp2_with fail
           refine (A.out).mono ?_;rintro e w' ⟨rfl,rfl⟩;go_wp2;go_ret;exact ⟨by rw [N.out];rfl,rfl⟩
         ·rw [decide_eq_false y] at e1;have N:Hid (dI zs=(mb&&aV t)):=(by rw [Hid,HW.out,decide_eq_true y];simp);clear y HW;cases mb
          ·clear Z
           go_wp2_with fail
           refine (A.out).mono ?_;rintro e w' ⟨rfl,rfl⟩;go_wp2;go_ret;exact ⟨by rw [N.out];rfl,rfl⟩
          ·generalize aV t=ad at Z N
           go_wp2_with fail
           refine (A.out).mono ?_;rintro e w' ⟨rfl,rfl⟩
           go_wp2_with fail
           refine (Z.out).mono ?_;rintro e w' ⟨rfl,rfl⟩;go_wp2;go_ret;exact ⟨by rw [N.out];rfl,rfl⟩
        ·have y:ex≠[]:=(by rw [U];simp);have e0:(strOfNums ex).toList.isEmpty=false:=(by rw [dL,decide_eq_false y]);have S:=fG D y w;rw [show ex[0]?.getD 0=45 by rw [U];rfl] at S;have xs:=Y t (by rw [U];rfl);have c3:1<=ex.length:=(by rw [U];simp);have a4:Bys t:=fun z y=>D z (by rw [U];simp [y]);have O:t.length<=1048576:=(by rw [U] at J;simp at J;omega);have Z:=aB (bS t w a4 O);have e1:=dL t;have HW:Hid (dI zs=(mb&&(decide (t≠[])&&aV t))):=(by rw [Hid,HV.out];unfold oA;rw [G]);clear y U G Y D J a4 M
         by_cases y:t=[]
         ·rw [decide_eq_true y] at e1;have N:Hid (dI zs=false):=(by rw [Hid,HW.out,y];cases mb<;>rfl);clear y;cases mb
          all_goals
           go_wp2_with fail
           refine (A.out).mono ?_;rintro e w' ⟨rfl,rfl⟩;go_wp2;go_ret;exact ⟨by rw [N.out];rfl,rfl⟩
         ·rw [decide_eq_false y] at e1;have N:Hid (dI zs=(mb&&aV t)):=(by rw [Hid,HW.out,decide_eq_true y];simp);clear y HW;cases mb
          ·clear Z
           go_wp2_with fail
           refine (A.out).mono ?_;rintro e w' ⟨rfl,rfl⟩;go_wp2;go_ret;exact ⟨by rw [N.out];rfl,rfl⟩
          ·generalize aV t=ad at Z N
           go_wp2_with fail
           refine (A.out).mono ?_;rintro e w' ⟨rfl,rfl⟩
           go_wp2_with fail
           refine (Z.out).mono ?_;rintro e w' ⟨rfl,rfl⟩;go_wp2;go_ret;exact ⟨by rw [N.out];rfl,rfl⟩
        ·have O:=J;have Z:=aB (bS ex w D O);have HW:Hid (dI zs=(mb&&(decide (ex≠[])&&aV ex))):=(by rw [Hid,HV.out];unfold oA;rw [G]);have e1:=dL ex
         by_cases y:ex=[]
         ·rw [decide_eq_true y] at e1;have N:Hid (dI zs=false):=(by rw [Hid,HW.out,y];cases mb<;>rfl);clear y G Y M a5;cases mb
          all_goals
           go_wp2_with fail
           refine (A.out).mono ?_;rintro e w' ⟨rfl,rfl⟩;go_wp2;go_ret;exact ⟨by rw [N.out];rfl,rfl⟩
         ·rw [decide_eq_false y] at e1;have S:=fG D y w;have a6:=D.get 0
          have s1:(ex[0]?.getD 0==43)=false:=by
           cases ex with
           | nil=>exact absurd rfl y
           | cons a r=>simp;exact fun h=>M ⟨r,by rw [h];rfl⟩
          have s2:(ex[0]?.getD 0==45)=false:=by
           cases ex with
           | nil=>exact absurd rfl y
           | cons a r=>simp;exact fun h=>a5 ⟨r,by rw [h];rfl⟩
          have N:Hid (dI zs=(mb&&aV ex)):=(by rw [Hid,HW.out,decide_eq_true y];simp);clear y G Y M a5 HW;generalize ex[0]?.getD 0=c0 at S a6 s1 s2;obtain ⟨d7,d3⟩:=a6;cases mb
          ·clear Z
           go_wp2_with fail
           refine (A.out).mono ?_;rintro e w' ⟨rfl,rfl⟩;go_wp2;go_ret;exact ⟨by rw [N.out];rfl,rfl⟩
          ·generalize aV ex=ad at Z N
           go_wp2_with fail
           refine (A.out).mono ?_;rintro e w' ⟨rfl,rfl⟩
           go_wp2_with fail
           refine (Z.out).mono ?_;rintro e w' ⟨rfl,rfl⟩;go_wp2;go_ret;exact ⟨by rw [N.out];rfl,rfl⟩
     ·have a9:zs.all (fun c=>!isE c)=true:=(by rwa [List.take_of_length_le (by omega)] at E);have HV:Hid (dI zs=cJ zs):=(by rw [Hid,HX.out,vQ a9];simp);clear E a9
      go_wp2_with fail
      refine HM.out.mono ?_;rintro e w' ⟨rfl,rfl⟩;go_wp2;go_ret;exact ⟨by rw [HV.out];rfl,rfl⟩
  ·have HX:=aB (b6.out (fun h=>b5 h.1));have g0:(a0==48)=false:=(by simp [b5]);clear b6 b7 b5
   go_enter func107,ntmps107
   go_wp2
   go_loopw [3] (fun i wr=>∃ k:Nat,k<=zs.length/\i=.int .i64 k/\(zs.take k).all (fun c=>!isE c)=true/\w=wr)
    (fun i _=>zs.length - (intOf i).toNat)
   case atStart=>exact ⟨0,Nat.zero_le _,rfl,rfl,rfl⟩
   case round=>
    obtain ⟨k,hk,rfl,E,rfl⟩:=hrel
    by_cases b2:k<zs.length
    ·have a7:=aB (lE zs (fun c=>!isE c) k b2 E);have X:=aB (aKI zs k b2 E);have b9:=qK hb b2 w;have a6:=hb.get k;generalize zs[k]?.getD 0=c at b9 a7 X a6;obtain ⟨c7,d8⟩:=a6;cases hE:isE c
     ·have HT:Hid ((zs.take (k+1)).all (fun c=>!isE c)=true):=a7.out (by simp [hE]);have c1:(c==101)=false:=(by simp [isE] at hE;simp;omega);have c2:(c==69)=false:=(by simp [isE] at hE;simp;omega);clear a7 X E;go_wp2
      go_roundw
      case rel=>exact ⟨k+1,by omega,by go_num,HT.out,trivial⟩
      case measure=>simp [intOf];omega
     ·obtain ⟨u1,u2,u3⟩:=X.out hE;have HV:Hid (dI zs=(cJ (zs.take k)&&oA (zs.drop (k+1)))):=(by rw [Hid,HX.out,u1,if_pos rfl,u2,u3]);have x1:(strOfNums zs).extract 0 k=strOfNums (zs.take k):=by rw [kM];simp
      have x2:(strOfNums zs).extract (k+1) zs.length=strOfNums (zs.drop (k+1)):=by
       rw [kM,List.take_of_length_le (by rw [List.length_drop];omega)]
      have D:Bys (zs.drop (k+1)):=fun z y=>hb z (List.mem_of_mem_drop y);have J:(zs.drop (k+1)).length<=1048576:=(by rw [List.length_drop];omega);have A:=aB (HK.out k);clear a7 X u1 u2 u3 E;generalize zs.drop (k+1)=ex at x2 HV D J;generalize cJ (zs.take k)=mb at HV A;generalize strOfNums (zs.take k)=mz at x1 A;have b8:c=101\/c=69:=(by simpa [isE] using hE);have d6:(strOfNums ex).size=ex.length:=strOfNums_size ex
      have Y:∀ t:List Int,ex.drop 1=t->(strOfNums ex).extract 1 ex.length=strOfNums t:=fun t ht=>by
       rw [kM,List.take_of_length_le (by rw [List.length_drop];omega),ht]
      clear hE;rcases b8 with rfl | rfl
      all_goals
       rcases sC ex with ⟨t,U,G⟩ | ⟨t,U,M,G⟩ | ⟨M,a5,G⟩
       ·have y:ex≠[]:=(by rw [U];simp);have e0:(strOfNums ex).toList.isEmpty=false:=(by rw [dL,decide_eq_false y]);have S:=fG D y w;rw [show ex[0]?.getD 0=43 by rw [U];rfl] at S;have xs:=Y t (by rw [U];rfl);have c3:1<=ex.length:=(by rw [U];simp);have a4:Bys t:=fun z y=>D z (by rw [U];simp [y]);have O:t.length<=1048576:=(by rw [U] at J;simp at J;omega);have Z:=aB (bS t w a4 O);have e1:=dL t;have HW:Hid (dI zs=(mb&&(decide (t≠[])&&aV t))):=(by rw [Hid,HV.out];unfold oA;rw [G]);clear y U G Y D J a4
        by_cases y:t=[]
        ·rw [decide_eq_true y] at e1;have N:Hid (dI zs=false):=(by rw [Hid,HW.out,y];cases mb<;>rfl);clear y;cases mb
         all_goals
          go_wp2_with fail
          refine (A.out).mono ?_;rintro e w' ⟨rfl,rfl⟩;go_wp2;go_ret;exact ⟨by rw [N.out];rfl,rfl⟩
        ·rw [decide_eq_false y] at e1;have N:Hid (dI zs=(mb&&aV t)):=(by rw [Hid,HW.out,decide_eq_true y];simp);clear y HW;cases mb
         ·clear Z
          go_wp2_with fail
          refine (A.out).mono ?_;rintro e w' ⟨rfl,rfl⟩;go_wp2;go_ret;exact ⟨by rw [N.out];rfl,rfl⟩
         ·generalize aV t=ad at Z N
          go_wp2_with fail
          refine (A.out).mono ?_;rintro e w' ⟨rfl,rfl⟩
          go_wp2_with fail
          refine (Z.out).mono ?_;rintro e w' ⟨rfl,rfl⟩;go_wp2;go_ret;exact ⟨by rw [N.out];rfl,rfl⟩
       ·have y:ex≠[]:=(by rw [U];simp);have e0:(strOfNums ex).toList.isEmpty=false:=(by rw [dL,decide_eq_false y]);have S:=fG D y w;rw [show ex[0]?.getD 0=45 by rw [U];rfl] at S;have xs:=Y t (by rw [U];rfl);have c3:1<=ex.length:=(by rw [U];simp);have a4:Bys t:=fun z y=>D z (by rw [U];simp [y]);have O:t.length<=1048576:=(by rw [U] at J;simp at J;omega);have Z:=aB (bS t w a4 O);have e1:=dL t;have HW:Hid (dI zs=(mb&&(decide (t≠[])&&aV t))):=(by rw [Hid,HV.out];unfold oA;rw [G]);clear y U G Y D J a4 M
        by_cases y:t=[]
        ·rw [decide_eq_true y] at e1;have N:Hid (dI zs=false):=(by rw [Hid,HW.out,y];cases mb<;>rfl);clear y;cases mb
         all_goals
          go_wp2_with fail
          refine (A.out).mono ?_;rintro e w' ⟨rfl,rfl⟩;go_wp2;go_ret;exact ⟨by rw [N.out];rfl,rfl⟩
        ·rw [decide_eq_false y] at e1;have N:Hid (dI zs=(mb&&aV t)):=(by rw [Hid,HW.out,decide_eq_true y];simp);clear y HW;cases mb
         ·clear Z
          go_wp2_with fail
          refine (A.out).mono ?_;rintro e w' ⟨rfl,rfl⟩;go_wp2;go_ret;exact ⟨by rw [N.out];rfl,rfl⟩
         ·generalize aV t=ad at Z N
          go_wp2_with fail
          refine (A.out).mono ?_;rintro e w' ⟨rfl,rfl⟩
          go_wp2_with fail
          refine (Z.out).mono ?_;rintro e w' ⟨rfl,rfl⟩;go_wp2;go_ret;exact ⟨by rw [N.out];rfl,rfl⟩
       ·have O:=J;have Z:=aB (bS ex w D O);have HW:Hid (dI zs=(mb&&(decide (ex≠[])&&aV ex))):=(by rw [Hid,HV.out];unfold oA;rw [G]);have e1:=dL ex
        by_cases y:ex=[]
        ·rw [decide_eq_true y] at e1;have N:Hid (dI zs=false):=(by rw [Hid,HW.out,y];cases mb<;>rfl);clear y G Y M a5;cases mb
         all_goals
          go_wp2_with fail
          refine (A.out).mono ?_;rintro e w' ⟨rfl,rfl⟩;go_wp2;go_ret;exact ⟨by rw [N.out];rfl,rfl⟩
        ·rw [decide_eq_false y] at e1;have S:=fG D y w;have a6:=D.get 0
         have s1:(ex[0]?.getD 0==43)=false:=by
          cases ex with
          | nil=>exact absurd rfl y
          | cons a r=>simp;exact fun h=>M ⟨r,by rw [h];rfl⟩
         have s2:(ex[0]?.getD 0==45)=false:=by
          cases ex with
          | nil=>exact absurd rfl y
          | cons a r=>simp;exact fun h=>a5 ⟨r,by rw [h];rfl⟩
         have N:Hid (dI zs=(mb&&aV ex)):=(by rw [Hid,HW.out,decide_eq_true y];simp);clear y G Y M a5 HW;generalize ex[0]?.getD 0=c0 at S a6 s1 s2;obtain ⟨d7,d3⟩:=a6;cases mb
         ·clear Z
          go_wp2_with fail
          refine (A.out).mono ?_;rintro e w' ⟨rfl,rfl⟩;go_wp2;go_ret;exact ⟨by rw [N.out];rfl,rfl⟩
         ·generalize aV ex=ad at Z N
          go_wp2_with fail
          refine (A.out).mono ?_;rintro e w' ⟨rfl,rfl⟩
          go_wp2_with fail
          refine (Z.out).mono ?_;rintro e w' ⟨rfl,rfl⟩;go_wp2;go_ret;exact ⟨by rw [N.out];rfl,rfl⟩
    ·have a9:zs.all (fun c=>!isE c)=true:=(by rwa [List.take_of_length_le (by omega)] at E);have HV:Hid (dI zs=cJ zs):=(by rw [Hid,HX.out,vQ a9];simp);clear E a9
     go_wp2_with fail
     refine HM.out.mono ?_;rintro e w' ⟨rfl,rfl⟩;go_wp2;go_ret;exact ⟨by rw [HV.out];rfl,rfl⟩
 ·have HX:Hid (dI zs=if zs.any isE then cJ (zs.takeWhile (fun c=>!isE c))&&oA (zs.dropWhile (fun c=>!isE c)).tail else cJ zs):=(by rw [Hid,HU.out,if_neg (fun h=>h2 h.1)]);clear HU
  go_enter func107,ntmps107
  go_wp2
  go_loopw [3] (fun i wr=>∃ k:Nat,k<=zs.length/\i=.int .i64 k/\(zs.take k).all (fun c=>!isE c)=true/\w=wr)
   (fun i _=>zs.length - (intOf i).toNat)
  case atStart=>exact ⟨0,Nat.zero_le _,rfl,rfl,rfl⟩
  case round=>
   obtain ⟨k,hk,rfl,E,rfl⟩:=hrel
   by_cases b2:k<zs.length
   ·have a7:=aB (lE zs (fun c=>!isE c) k b2 E);have X:=aB (aKI zs k b2 E);have b9:=qK hb b2 w;have a6:=hb.get k;generalize zs[k]?.getD 0=c at b9 a7 X a6;obtain ⟨c7,d8⟩:=a6;cases hE:isE c
    ·have HT:Hid ((zs.take (k+1)).all (fun c=>!isE c)=true):=a7.out (by simp [hE]);have c1:(c==101)=false:=(by simp [isE] at hE;simp;omega);have c2:(c==69)=false:=(by simp [isE] at hE;simp;omega);clear a7 X E;go_wp2
     go_roundw
     case rel=>exact ⟨k+1,by omega,by go_num,HT.out,trivial⟩
     case measure=>simp [intOf];omega
    ·obtain ⟨u1,u2,u3⟩:=X.out hE;have HV:Hid (dI zs=(cJ (zs.take k)&&oA (zs.drop (k+1)))):=(by rw [Hid,HX.out,u1,if_pos rfl,u2,u3]);have x1:(strOfNums zs).extract 0 k=strOfNums (zs.take k):=by rw [kM];simp
     have x2:(strOfNums zs).extract (k+1) zs.length=strOfNums (zs.drop (k+1)):=by
      rw [kM,List.take_of_length_le (by rw [List.length_drop];omega)]
     have D:Bys (zs.drop (k+1)):=fun z y=>hb z (List.mem_of_mem_drop y);have J:(zs.drop (k+1)).length<=1048576:=(by rw [List.length_drop];omega);have A:=aB (HK.out k);clear a7 X u1 u2 u3 E;generalize zs.drop (k+1)=ex at x2 HV D J;generalize cJ (zs.take k)=mb at HV A;generalize strOfNums (zs.take k)=mz at x1 A;have b8:c=101\/c=69:=(by simpa [isE] using hE);have d6:(strOfNums ex).size=ex.length:=strOfNums_size ex
     have Y:∀ t:List Int,ex.drop 1=t->(strOfNums ex).extract 1 ex.length=strOfNums t:=fun t ht=>by
      rw [kM,List.take_of_length_le (by rw [List.length_drop];omega),ht]
     clear hE;rcases b8 with rfl | rfl
     all_goals
      rcases sC ex with ⟨t,U,G⟩ | ⟨t,U,M,G⟩ | ⟨M,a5,G⟩
      ·have y:ex≠[]:=(by rw [U];simp);have e0:(strOfNums ex).toList.isEmpty=false:=(by rw [dL,decide_eq_false y]);have S:=fG D y w;rw [show ex[0]?.getD 0=43 by rw [U];rfl] at S;have xs:=Y t (by rw [U];rfl);have c3:1<=ex.length:=(by rw [U];simp);have a4:Bys t:=fun z y=>D z (by rw [U];simp [y]);have O:t.length<=1048576:=(by rw [U] at J;simp at J;omega);have Z:=aB (bS t w a4 O);have e1:=dL t;have HW:Hid (dI zs=(mb&&(decide (t≠[])&&aV t))):=(by rw [Hid,HV.out];unfold oA;rw [G]);clear y U G Y D J a4
       by_cases y:t=[]
       ·rw [decide_eq_true y] at e1;have N:Hid (dI zs=false):=(by rw [Hid,HW.out,y];cases mb<;>rfl);clear y;cases mb
        all_goals
         go_wp2_with fail
         refine (A.out).mono ?_;rintro e w' ⟨rfl,rfl⟩;go_wp2;go_ret;exact ⟨by rw [N.out];rfl,rfl⟩
       ·rw [decide_eq_false y] at e1;have N:Hid (dI zs=(mb&&aV t)):=(by rw [Hid,HW.out,decide_eq_true y];simp);clear y HW;cases mb
        ·clear Z
         go_wp2_with fail
         refine (A.out).mono ?_;rintro e w' ⟨rfl,rfl⟩;go_wp2;go_ret;exact ⟨by rw [N.out];rfl,rfl⟩
        ·generalize aV t=ad at Z N
         go_wp2_with fail
         refine (A.out).mono ?_;rintro e w' ⟨rfl,rfl⟩
         go_wp2_with fail
         refine (Z.out).mono ?_;rintro e w' ⟨rfl,rfl⟩;go_wp2;go_ret;exact ⟨by rw [N.out];rfl,rfl⟩
      ·have y:ex≠[]:=(by rw [U];simp);have e0:(strOfNums ex).toList.isEmpty=false:=(by rw [dL,decide_eq_false y]);have S:=fG D y w;rw [show ex[0]?.getD 0=45 by rw [U];rfl] at S;have xs:=Y t (by rw [U];rfl);have c3:1<=ex.length:=(by rw [U];simp);have a4:Bys t:=fun z y=>D z (by rw [U];simp [y]);have O:t.length<=1048576:=(by rw [U] at J;simp at J;omega);have Z:=aB (bS t w a4 O);have e1:=dL t;have HW:Hid (dI zs=(mb&&(decide (t≠[])&&aV t))):=(by rw [Hid,HV.out];unfold oA;rw [G]);clear y U G Y D J a4 M
       by_cases y:t=[]
       ·rw [decide_eq_true y] at e1;have N:Hid (dI zs=false):=(by rw [Hid,HW.out,y];cases mb<;>rfl);clear y;cases mb
        all_goals
         go_wp2_with fail
         refine (A.out).mono ?_;rintro e w' ⟨rfl,rfl⟩;go_wp2;go_ret;exact ⟨by rw [N.out];rfl,rfl⟩
       ·rw [decide_eq_false y] at e1;have N:Hid (dI zs=(mb&&aV t)):=(by rw [Hid,HW.out,decide_eq_true y];simp);clear y HW;cases mb
        ·clear Z
         go_wp2_with fail
         refine (A.out).mono ?_;rintro e w' ⟨rfl,rfl⟩;go_wp2;go_ret;exact ⟨by rw [N.out];rfl,rfl⟩
        ·generalize aV t=ad at Z N
         go_wp2_with fail
         refine (A.out).mono ?_;rintro e w' ⟨rfl,rfl⟩
         go_wp2_with fail
         refine (Z.out).mono ?_;rintro e w' ⟨rfl,rfl⟩;go_wp2;go_ret;exact ⟨by rw [N.out];rfl,rfl⟩
      ·have O:=J;have Z:=aB (bS ex w D O);have HW:Hid (dI zs=(mb&&(decide (ex≠[])&&aV ex))):=(by rw [Hid,HV.out];unfold oA;rw [G]);have e1:=dL ex
       by_cases y:ex=[]
       ·rw [decide_eq_true y] at e1;have N:Hid (dI zs=false):=(by rw [Hid,HW.out,y];cases mb<;>rfl);clear y G Y M a5;cases mb
        all_goals
         go_wp2_with fail
         refine (A.out).mono ?_;rintro e w' ⟨rfl,rfl⟩;go_wp2;go_ret;exact ⟨by rw [N.out];rfl,rfl⟩
       ·rw [decide_eq_false y] at e1;have S:=fG D y w;have a6:=D.get 0
        have s1:(ex[0]?.getD 0==43)=false:=by
         cases ex with
         | nil=>exact absurd rfl y
         | cons a r=>simp;exact fun h=>M ⟨r,by rw [h];rfl⟩
        have s2:(ex[0]?.getD 0==45)=false:=by
         cases ex with
         | nil=>exact absurd rfl y
         | cons a r=>simp;exact fun h=>a5 ⟨r,by rw [h];rfl⟩
        have N:Hid (dI zs=(mb&&aV ex)):=(by rw [Hid,HW.out,decide_eq_true y];simp);clear y G Y M a5 HW;generalize ex[0]?.getD 0=c0 at S a6 s1 s2;obtain ⟨d7,d3⟩:=a6;cases mb
        ·clear Z
         go_wp2_with fail
         refine (A.out).mono ?_;rintro e w' ⟨rfl,rfl⟩;go_wp2;go_ret;exact ⟨by rw [N.out];rfl,rfl⟩
        ·generalize aV ex=ad at Z N
         go_wp2_with fail
         refine (A.out).mono ?_;rintro e w' ⟨rfl,rfl⟩
         go_wp2_with fail
         refine (Z.out).mono ?_;rintro e w' ⟨rfl,rfl⟩;go_wp2;go_ret;exact ⟨by rw [N.out];rfl,rfl⟩
   ·have a9:zs.all (fun c=>!isE c)=true:=(by rwa [List.take_of_length_le (by omega)] at E);have HV:Hid (dI zs=cJ zs):=(by rw [Hid,HX.out,vQ a9];simp);clear E a9
    go_wp2_with fail
    refine HM.out.mono ?_;rintro e w' ⟨rfl,rfl⟩;go_wp2;go_ret;exact ⟨by rw [HV.out];rfl,rfl⟩
theorem vY (v:Value) (zs:List Int) (w:World) (hv:RdB w.heap.size w v zs) (O:Bys zs) (S:zs.length<=1048576) :
  Calls prog 68 #[v] w fun e w'=>e=.returned (.bool (nL zs))/\w=w':=by
 have Z:=oX hv;have a9:(strOfNums zs).size=zs.length:=strOfNums_size zs;have X:=dL zs
 have J:∀ t:List Int,zs.drop 1=t->(strOfNums zs).extract 1 zs.length=strOfNums t:=fun t ht=>by
  rw [kM,List.take_of_length_le (by rw [List.length_drop];omega),ht]
 obtain ⟨a,cap,rfl,_⟩:=hv;rcases sC zs with ⟨t,G,A⟩ | ⟨t,G,D,A⟩ | ⟨D,N,A⟩
 ·have y:zs≠[]:=(by rw [G];simp);rw [decide_eq_false y] at X;have E:=fG O y w;rw [show zs[0]?.getD 0=43 by rw [G];rfl] at E;have xs:=J t (by rw [G];rfl);have Y:1<=zs.length:=(by rw [G];simp);have HV:Hid (nL zs=dI t):=(by rw [Hid];unfold nL;rw [A]);have M:=aB (pG t w (fun z y=>O z (by rw [G];simp [y])) (by rw [G] at S;simp at S;omega));clear y G A J
  go_enter func68,ntmps68
  go_wp2_with fail
  refine M.out.mono ?_;rintro e w' ⟨rfl,rfl⟩;go_wp2;go_ret;exact ⟨by rw [HV.out];rfl,rfl⟩
 ·have y:zs≠[]:=(by rw [G];simp);rw [decide_eq_false y] at X;have E:=fG O y w;rw [show zs[0]?.getD 0=45 by rw [G];rfl] at E;have xs:=J t (by rw [G];rfl);have Y:1<=zs.length:=(by rw [G];simp);have HV:Hid (nL zs=dI t):=(by rw [Hid];unfold nL;rw [A]);have M:=aB (pG t w (fun z y=>O z (by rw [G];simp [y])) (by rw [G] at S;simp at S;omega));clear y G A J D
  go_enter func68,ntmps68
  go_wp2_with fail
  refine M.out.mono ?_;rintro e w' ⟨rfl,rfl⟩;go_wp2;go_ret;exact ⟨by rw [HV.out];rfl,rfl⟩
 ·have HV:Hid (nL zs=dI zs):=(by rw [Hid];unfold nL;rw [A]);have M:=aB (pG zs w O S)
  by_cases y:zs=[]
  ·rw [decide_eq_true y] at X;clear y A J D N
   go_enter func68,ntmps68
   go_wp2_with fail
   refine M.out.mono ?_;rintro e w' ⟨rfl,rfl⟩;go_wp2;go_ret;exact ⟨by rw [HV.out];rfl,rfl⟩
  ·rw [decide_eq_false y] at X;have E:=fG O y w;have U:=O.get 0
   have s1:(zs[0]?.getD 0==43)=false:=by
    cases zs with
    | nil=>exact absurd rfl y
    | cons a r=>simp;exact fun h=>D ⟨r,by rw [h];rfl⟩
   have s2:(zs[0]?.getD 0==45)=false:=by
    cases zs with
    | nil=>exact absurd rfl y
    | cons a r=>simp;exact fun h=>N ⟨r,by rw [h];rfl⟩
   clear y A J D N;generalize zs[0]?.getD 0=c0 at E U s1 s2;obtain ⟨a8,a5⟩:=U
   go_enter func68,ntmps68
   go_wp2_with fail
   refine M.out.mono ?_;rintro e w' ⟨rfl,rfl⟩;go_wp2;go_ret;exact ⟨by rw [HV.out];rfl,rfl⟩
end Go.Proofs.YtmfehflibkokbaaGreatDoor
