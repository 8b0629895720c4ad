import Derived.Test.YtckcaefnokeodaaGreatDoorMAG
set_option maxHeartbeats 16000000
set_option maxRecDepth 100000
namespace Go.Proofs.YtckcaefnokeodaaGreatDoor
open Go.Proofs.Tryz Go.RowKit List
attribute [-go_sem] run_index_string
theorem aD9 {h} (D:Bys h) (l) (E:Bys l) (u:List UInt8) (A:(strOfNums l).toList=u):((strOfNums h).toList==u)=decide (h=l):=by
 rw [<- A];exact aD0 D E
theorem aG7 {l:List Int} (h:l.all (fun z=>decide (0<=z/\z<=255))=true):Bys l:=fun z A=>by
 have:=all_eq_true.1 h z A;simpa using this
theorem rC {a u:List UInt8} {b:Bool} (h:(a==u)=b):(a=u)=(b=true):=by
 rw [<- h];simp
theorem yD {A:List Int} (h:A.all (fun c=>!isE c)=true):A.any isE=false:=by
 rw [any_eq_false];intro x D;have:=all_eq_true.1 h x D;simpa using this
theorem aMn (h:List Int) (k:Nat) (D:k<h.length) (G:(h.take k).all (fun c=>!isE c)=true) (H:isE (h[k]?.getD 0)=true) :
  h.any isE=true/\h.takeWhile (fun c=>!isE c)=h.take k/\(h.dropWhile (fun c=>!isE c)).tail=h.drop (k+1):=by
 have F:h=h.take k++h[k]::h.drop (k+1):=by
  conv=>lhs;rw [<- take_append_drop k h,drop_eq_getElem_cons D]
 have A:isE h[k]=true:=(by simpa [D] using H);have E:=pY (p:=fun c=>!isE c) (a:=h.take k) (c:=h[k]) (b:=h.drop (k+1)) (fun x I=>all_eq_true.1 G x I) (by simp [A]);rw [<- F] at E;refine ⟨?_,E.1,by rw [E.2];rfl⟩;rw [any_eq_true];exact ⟨h[k],getElem_mem D,A⟩
theorem pS (A w) (hb:Bys A) (hl:A.length<=1048576) :
  Calls prog 120 #[.string (strOfNums A)] w fun e Z=>e=.returned (.bool (dL A))/\w=Z:=by
 have g9:∀ (x:Bool) (w:World),(Op.unary .not (.bool x)).run prog w=.ok (.bool (!x)) w:=fun _ _=>rfl;have h8:(strOfNums A).size=A.length:=strOfNums_size A;have eI:=aD9 hb oY (aG7 (by decide)) [73,110,102,105,110,105,116,121] (by rw [fO];rfl);have eN:=aD9 hb nan (aG7 (by decide)) [78,97,78] (by rw [fO];rfl);have fI:=rC eI;have fN:=rC eN
 by_cases hi:A=oY
 .have HV:Hid (dL A=true):=(by rw [Hid];unfold dL;rw [if_pos (.inl hi)]);rw [decide_eq_true hi] at eI fI;clear hi fN
  go_enter func120,ntmps120
  go_wp2;go_ret;exact ⟨by rw [HV.out];rfl,rfl⟩
 rw [decide_eq_false hi] at eI fI
 by_cases hn:A=nan
 .have HV:Hid (dL A=true):=(by rw [Hid];unfold dL;rw [if_pos (.inr hn)]);rw [decide_eq_true hn] at eN fN;clear hi hn
  go_enter func120,ntmps120
  go_wp2;go_ret;exact ⟨by rw [HV.out];rfl,rfl⟩
 rw [decide_eq_false hn] at eN fN
 have HU:Hid (dL A=if 2<A.length/\A[0]?.getD 0=48/\isX (A[1]?.getD 0)=true then (A.drop 2).all eQ
  else if A.any isE then cQ (A.takeWhile (fun c=>!isE c))&&pM (A.dropWhile (fun c=>!isE c)).tail else cQ A):=by
  rw [Hid];unfold dL;rw [if_neg (by simp [hi,hn])]
 clear hi hn;simp only [Bool.false_eq_true,eq_iff_iff,iff_false] at fI fN;have HM:=aB (wD A w hb hl);have HK:=aB (fun k:Nat=>wD (A.take k) w (fun z D=>hb z (mem_of_mem_take D)) (by rw [length_take];omega))
 by_cases h2:2<A.length
 .have g3:=fZ hb (fun e=>by rw [e] at h2;simp at h2) w;have d8:=rZ hb (k:=1) (by omega) w;rw [show ((1:Nat):Int)=1 from rfl] at d8;have b0:=hb.get 0;have b1:=hb.get 1
  have b8:Hid (¬ (A[0]?.getD 0=48/\isX (A[1]?.getD 0)=true)->dL A=if A.any isE then cQ (A.takeWhile (fun c=>!isE c))&&pM (A.dropWhile (fun c=>!isE c)).tail else cQ A):=by
   intro h;rw [HU.out,if_neg (fun h'=>h h'.2)]
  have b9:Hid ((A[0]?.getD 0=48/\isX (A[1]?.getD 0)=true)->dL A=(A.drop 2).all eQ):=by
   intro h;rw [HU.out,if_pos ⟨h2,h⟩]
  clear HU;generalize A[0]?.getD 0=a0 at g3 b0 b8 b9;generalize A[1]?.getD 0=a1 at d8 b1 b8 b9;obtain ⟨h5,h9⟩:=b0;obtain ⟨i1,i0⟩:=b1
  by_cases b7:a0=48
  .have g0:(a0==48)=true:=by simp [b7]
   by_cases hx:a1=120\/a1=88
   .have HV:=aB (b9.out ⟨b7,by simp [isX,hx]⟩)
    have x3:(strOfNums A).extract 2 A.length=strOfNums (A.drop 2):=by
     rw [lM,take_of_length_le (by rw [length_drop];omega)]
    have HH:=aB (aFd (A.drop 2) w (fun z D=>hb z (mem_of_mem_drop D)) (by rw [length_drop];omega));rw [show decide (0<(A.drop 2).length)=true by simp;omega,Bool.and_true] at HH;clear b8 b9 b7;generalize (A.drop 2).all eQ=ah at HH HV;rcases hx with rfl | rfl
    all_goals
     go_enter func120,ntmps120
     go_wp2_with fail
     refine HH.out.mono ?_;rintro e Z ⟨rfl,rfl⟩;go_wp2;go_ret;exact ⟨by rw [HV.out];rfl,rfl⟩
   .have HX:=aB (b8.out (fun h=>hx (by simpa [isX] using h.2)));have g1:(a1==120)=false:=(by simp;omega);have g2:(a1==88)=false:=(by simp;omega);clear b8 b9 b7 hx
    go_enter func120,ntmps120
    go_wp2
    go_loopw [3] (fun i wr=>∃ k:Nat,k<=A.length/\i=.int .i64 k/\(A.take k).all (fun c=>!isE c)=true/\w=wr)
     (fun i _=>A.length - (intOf i).toNat)
    case atStart=>exact ⟨0,Nat.zero_le _,rfl,rfl,rfl⟩
    case round=>
     obtain ⟨k,hk,rfl,G,rfl⟩:=hrel
     by_cases b4:k<A.length
     .have a9:=aB (mH A (fun c=>!isE c) k b4 G);have Y:=aB (aMn A k b4 G);have c5:=rZ hb b4 w;have a7:=hb.get k;generalize A[k]?.getD 0=c at c5 a9 Y a7;obtain ⟨d0,f0⟩:=a7;cases hE:isE c
      .have HT:Hid ((A.take (k+1)).all (fun c=>!isE c)=true):=a9.out (by simp [hE]);have c1:(c==101)=false:=(by simp [isE] at hE;simp;omega);have c2:(c==69)=false:=(by simp [isE] at hE;simp;omega);clear a9 Y G;go_wp2
       go_roundw
       case rel=>exact ⟨k+1,by omega,by go_num,HT.out,trivial⟩
       case measure=>simp [intOf];omega
      .obtain ⟨u1,u2,u3⟩:=Y.out hE;have HV:Hid (dL A=(cQ (A.take k)&&pM (A.drop (k+1)))):=(by rw [Hid,HX.out,u1,if_pos rfl,u2,u3]);have x1:(strOfNums A).extract 0 k=strOfNums (A.take k):=by rw [lM];simp
       have x2:(strOfNums A).extract (k+1) A.length=strOfNums (A.drop (k+1)):=by
        rw [lM,take_of_length_le (by rw [length_drop];omega)]
       have F:Bys (A.drop (k+1)):=fun z D=>hb z (mem_of_mem_drop D);have O:(A.drop (k+1)).length<=1048576:=(by rw [length_drop];omega);have E:=aB (HK.out k);clear a9 Y u1 u2 u3 G;generalize A.drop (k+1)=ex at x2 HV F O;generalize cQ (A.take k)=mb at HV E;generalize strOfNums (A.take k)=mz at x1 E;have c4:c=101\/c=69:=(by simpa [isE] using hE);have d2:(strOfNums ex).size=ex.length:=strOfNums_size ex
       have a2:∀ t:List Int,ex.drop 1=t->(strOfNums ex).extract 1 ex.length=strOfNums t:=fun t ht=>by
        rw [lM,take_of_length_le (by rw [length_drop];omega),ht]
       clear hE;rcases c4 with rfl | rfl
       all_goals
        rcases tS ex with ⟨t,S,H⟩ | ⟨t,S,M,H⟩ | ⟨M,a3,H⟩
        .have D:ex≠[]:=(by rw [S];simp);have e0:(strOfNums ex).toList.isEmpty=false:=(by rw [dS,decide_eq_false D]);have N:=fZ F D w;rw [show ex[0]?.getD 0=43 by rw [S];rfl] at N;have xs:=a2 t (by rw [S];rfl);have c3:1<=ex.length:=(by rw [S];simp);have a5:Bys t:=fun z D=>F z (by rw [S];simp [D]);have J:t.length<=1048576:=(by rw [S] at O;simp at O;omega);have HD:=aB (bZ t w a5 J);have e1:=dS t;have HW:Hid (dL A=(mb&&(decide (t≠[])&&aX t))):=(by rw [Hid,HV.out];unfold pM;rw [H]);clear D S H a2 F O a5
         by_cases D:t=[]
         .rw [decide_eq_true D] at e1;have I:Hid (dL A=false):=(by rw [Hid,HW.out,D];cases mb<;>rfl);clear D;cases mb
          all_goals
           go_wp2_with fail
           refine (E.out).mono ?_;rintro e Z ⟨rfl,rfl⟩;go_wp2;go_ret;exact ⟨by rw [I.out];rfl,rfl⟩
         .rw [decide_eq_false D] at e1;have I:Hid (dL A=(mb&&aX t)):=(by rw [Hid,HW.out,decide_eq_true D];simp);clear D HW;cases mb
          .clear HD
           go_wp2_with fail
           refine (E.out).mono ?_;rintro e Z ⟨rfl,rfl⟩;go_wp2;go_ret;exact ⟨by rw [I.out];rfl,rfl⟩
          .generalize aX t=ad at HD I
           go_wp2_with fail
           refine (E.out).mono ?_;rintro e Z ⟨rfl,rfl⟩
           go_wp2_with fail
           refine (HD.out).mono ?_;rintro e Z ⟨rfl,rfl⟩;go_wp2;go_ret;exact ⟨by rw [I.out];rfl,rfl⟩
        .have D:ex≠[]:=(by rw [S];simp);have e0:(strOfNums ex).toList.isEmpty=false:=(by rw [dS,decide_eq_false D]);have N:=fZ F D w;rw [show ex[0]?.getD 0=45 by rw [S];rfl] at N;have xs:=a2 t (by rw [S];rfl);have c3:1<=ex.length:=(by rw [S];simp);have a5:Bys t:=fun z D=>F z (by rw [S];simp [D]);have J:t.length<=1048576:=(by rw [S] at O;simp at O;omega);have HD:=aB (bZ t w a5 J);have e1:=dS t;have HW:Hid (dL A=(mb&&(decide (t≠[])&&aX t))):=(by rw [Hid,HV.out];unfold pM;rw [H]);clear D S H a2 F O a5 M
         by_cases D:t=[]
         .rw [decide_eq_true D] at e1;have I:Hid (dL A=false):=(by rw [Hid,HW.out,D];cases mb<;>rfl);clear D;cases mb
          all_goals
           go_wp2_with fail
           refine (E.out).mono ?_;rintro e Z ⟨rfl,rfl⟩;go_wp2;go_ret;exact ⟨by rw [I.out];rfl,rfl⟩
         .rw [decide_eq_false D] at e1;have I:Hid (dL A=(mb&&aX t)):=(by rw [Hid,HW.out,decide_eq_true D];simp);clear D HW;cases mb
          .clear HD
           go_wp2_with fail
           refine (E.out).mono ?_;rintro e Z ⟨rfl,rfl⟩;go_wp2;go_ret;exact ⟨by rw [I.out];rfl,rfl⟩
          .generalize aX t=ad at HD I
           go_wp2_with fail
           refine (E.out).mono ?_;rintro e Z ⟨rfl,rfl⟩
           go_wp2_with fail
           refine (HD.out).mono ?_;rintro e Z ⟨rfl,rfl⟩;go_wp2;go_ret;exact ⟨by rw [I.out];rfl,rfl⟩
        .have J:=O;have HD:=aB (bZ ex w F J);have HW:Hid (dL A=(mb&&(decide (ex≠[])&&aX ex))):=(by rw [Hid,HV.out];unfold pM;rw [H]);have e1:=dS ex
         by_cases D:ex=[]
         .rw [decide_eq_true D] at e1;have I:Hid (dL A=false):=(by rw [Hid,HW.out,D];cases mb<;>rfl);clear D H a2 M a3;cases mb
          all_goals
           go_wp2_with fail
           refine (E.out).mono ?_;rintro e Z ⟨rfl,rfl⟩;go_wp2;go_ret;exact ⟨by rw [I.out];rfl,rfl⟩
         .rw [decide_eq_false D] at e1;have N:=fZ F D w;have a7:=F.get 0
          have s1:(ex[0]?.getD 0==43)=false:=by
           cases ex with
           | nil=>exact absurd rfl D
           | cons a r=>simp;exact fun h=>M ⟨r,by rw [h];rfl⟩
          have s2:(ex[0]?.getD 0==45)=false:=by
           cases ex with
           | nil=>exact absurd rfl D
           | cons a r=>simp;exact fun h=>a3 ⟨r,by rw [h];rfl⟩
          have I:Hid (dL A=(mb&&aX ex)):=(by rw [Hid,HW.out,decide_eq_true D];simp);clear D H a2 M a3 HW;generalize ex[0]?.getD 0=c0 at N a7 s1 s2;obtain ⟨d1,d5⟩:=a7;cases mb
          .clear HD
           go_wp2_with fail
           refine (E.out).mono ?_;rintro e Z ⟨rfl,rfl⟩;go_wp2;go_ret;exact ⟨by rw [I.out];rfl,rfl⟩
          .generalize aX ex=ad at HD I
           go_wp2_with fail
           refine (E.out).mono ?_;rintro e Z ⟨rfl,rfl⟩
           go_wp2_with fail
           refine (HD.out).mono ?_;rintro e Z ⟨rfl,rfl⟩;go_wp2;go_ret;exact ⟨by rw [I.out];rfl,rfl⟩
     .have b3:A.all (fun c=>!isE c)=true:=(by rwa [take_of_length_le (by omega)] at G);have HV:Hid (dL A=cQ A):=(by rw [Hid,HX.out,yD b3];simp);clear G b3
      go_wp2_with fail
      refine HM.out.mono ?_;rintro e Z ⟨rfl,rfl⟩;go_wp2;go_ret;exact ⟨by rw [HV.out];rfl,rfl⟩
  .have HX:=aB (b8.out (fun h=>b7 h.1));have g0:(a0==48)=false:=(by simp [b7]);clear b8 b9 b7
   go_enter func120,ntmps120
   go_wp2
   go_loopw [3] (fun i wr=>∃ k:Nat,k<=A.length/\i=.int .i64 k/\(A.take k).all (fun c=>!isE c)=true/\w=wr)
    (fun i _=>A.length - (intOf i).toNat)
   case atStart=>exact ⟨0,Nat.zero_le _,rfl,rfl,rfl⟩
   case round=>
    obtain ⟨k,hk,rfl,G,rfl⟩:=hrel
    by_cases b4:k<A.length
    .have a9:=aB (mH A (fun c=>!isE c) k b4 G);have Y:=aB (aMn A k b4 G);have c5:=rZ hb b4 w;have a7:=hb.get k;generalize A[k]?.getD 0=c at c5 a9 Y a7;obtain ⟨d0,f0⟩:=a7;cases hE:isE c
     .have HT:Hid ((A.take (k+1)).all (fun c=>!isE c)=true):=a9.out (by simp [hE]);have c1:(c==101)=false:=(by simp [isE] at hE;simp;omega);have c2:(c==69)=false:=(by simp [isE] at hE;simp;omega);clear a9 Y G;go_wp2
      go_roundw
      case rel=>exact ⟨k+1,by omega,by go_num,HT.out,trivial⟩
      case measure=>simp [intOf];omega
     .obtain ⟨u1,u2,u3⟩:=Y.out hE;have HV:Hid (dL A=(cQ (A.take k)&&pM (A.drop (k+1)))):=(by rw [Hid,HX.out,u1,if_pos rfl,u2,u3]);have x1:(strOfNums A).extract 0 k=strOfNums (A.take k):=by rw [lM];simp
      have x2:(strOfNums A).extract (k+1) A.length=strOfNums (A.drop (k+1)):=by
       rw [lM,take_of_length_le (by rw [length_drop];omega)]
      have F:Bys (A.drop (k+1)):=fun z D=>hb z (mem_of_mem_drop D);have O:(A.drop (k+1)).length<=1048576:=(by rw [length_drop];omega);have E:=aB (HK.out k);clear a9 Y u1 u2 u3 G;generalize A.drop (k+1)=ex at x2 HV F O;generalize cQ (A.take k)=mb at HV E;generalize strOfNums (A.take k)=mz at x1 E;have c4:c=101\/c=69:=(by simpa [isE] using hE);have d2:(strOfNums ex).size=ex.length:=strOfNums_size ex
      have a2:∀ t:List Int,ex.drop 1=t->(strOfNums ex).extract 1 ex.length=strOfNums t:=fun t ht=>by
       rw [lM,take_of_length_le (by rw [length_drop];omega),ht]
      clear hE;rcases c4 with rfl | rfl
      all_goals
       rcases tS ex with ⟨t,S,H⟩ | ⟨t,S,M,H⟩ | ⟨M,a3,H⟩
       .have D:ex≠[]:=(by rw [S];simp);have e0:(strOfNums ex).toList.isEmpty=false:=(by rw [dS,decide_eq_false D]);have N:=fZ F D w;rw [show ex[0]?.getD 0=43 by rw [S];rfl] at N;have xs:=a2 t (by rw [S];rfl);have c3:1<=ex.length:=(by rw [S];simp);have a5:Bys t:=fun z D=>F z (by rw [S];simp [D]);have J:t.length<=1048576:=(by rw [S] at O;simp at O;omega);have HD:=aB (bZ t w a5 J);have e1:=dS t;have HW:Hid (dL A=(mb&&(decide (t≠[])&&aX t))):=(by rw [Hid,HV.out];unfold pM;rw [H]);clear D S H a2 F O a5
        by_cases D:t=[]
        .rw [decide_eq_true D] at e1;have I:Hid (dL A=false):=(by rw [Hid,HW.out,D];cases mb<;>rfl);clear D;cases mb
         all_goals
          go_wp2_with fail
          refine (E.out).mono ?_;rintro e Z ⟨rfl,rfl⟩;go_wp2;go_ret;exact ⟨by rw [I.out];rfl,rfl⟩
        .rw [decide_eq_false D] at e1;have I:Hid (dL A=(mb&&aX t)):=(by rw [Hid,HW.out,decide_eq_true D];simp);clear D HW;cases mb
         .clear HD
          go_wp2_with fail
          refine (E.out).mono ?_;rintro e Z ⟨rfl,rfl⟩;go_wp2;go_ret;exact ⟨by rw [I.out];rfl,rfl⟩
         .generalize aX t=ad at HD I
          go_wp2_with fail
          refine (E.out).mono ?_;rintro e Z ⟨rfl,rfl⟩
          go_wp2_with fail
          refine (HD.out).mono ?_;rintro e Z ⟨rfl,rfl⟩;go_wp2;go_ret;exact ⟨by rw [I.out];rfl,rfl⟩
       .have D:ex≠[]:=(by rw [S];simp);have e0:(strOfNums ex).toList.isEmpty=false:=(by rw [dS,decide_eq_false D]);have N:=fZ F D w;rw [show ex[0]?.getD 0=45 by rw [S];rfl] at N;have xs:=a2 t (by rw [S];rfl);have c3:1<=ex.length:=(by rw [S];simp);have a5:Bys t:=fun z D=>F z (by rw [S];simp [D]);have J:t.length<=1048576:=(by rw [S] at O;simp at O;omega);have HD:=aB (bZ t w a5 J);have e1:=dS t;have HW:Hid (dL A=(mb&&(decide (t≠[])&&aX t))):=(by rw [Hid,HV.out];unfold pM;rw [H]);clear D S H a2 F O a5 M
        by_cases D:t=[]
        .rw [decide_eq_true D] at e1;have I:Hid (dL A=false):=(by rw [Hid,HW.out,D];cases mb<;>rfl);clear D;cases mb
         all_goals
          go_wp2_with fail
          refine (E.out).mono ?_;rintro e Z ⟨rfl,rfl⟩;go_wp2;go_ret;exact ⟨by rw [I.out];rfl,rfl⟩
        .rw [decide_eq_false D] at e1;have I:Hid (dL A=(mb&&aX t)):=(by rw [Hid,HW.out,decide_eq_true D];simp);clear D HW;cases mb
         .clear HD
          go_wp2_with fail
          refine (E.out).mono ?_;rintro e Z ⟨rfl,rfl⟩;go_wp2;go_ret;exact ⟨by rw [I.out];rfl,rfl⟩
         .generalize aX t=ad at HD I
          go_wp2_with fail
          refine (E.out).mono ?_;rintro e Z ⟨rfl,rfl⟩
          go_wp2_with fail
          refine (HD.out).mono ?_;rintro e Z ⟨rfl,rfl⟩;go_wp2;go_ret;exact ⟨by rw [I.out];rfl,rfl⟩
       .have J:=O;have HD:=aB (bZ ex w F J);have HW:Hid (dL A=(mb&&(decide (ex≠[])&&aX ex))):=(by rw [Hid,HV.out];unfold pM;rw [H]);have e1:=dS ex
        by_cases D:ex=[]
        .rw [decide_eq_true D] at e1;have I:Hid (dL A=false):=(by rw [Hid,HW.out,D];cases mb<;>rfl);clear D H a2 M a3;cases mb
         all_goals
          go_wp2_with fail
          refine (E.out).mono ?_;rintro e Z ⟨rfl,rfl⟩;go_wp2;go_ret;exact ⟨by rw [I.out];rfl,rfl⟩
        .rw [decide_eq_false D] at e1;have N:=fZ F D w;have a7:=F.get 0
         have s1:(ex[0]?.getD 0==43)=false:=by
          cases ex with
          | nil=>exact absurd rfl D
          | cons a r=>simp;exact fun h=>M ⟨r,by rw [h];rfl⟩
         have s2:(ex[0]?.getD 0==45)=false:=by
          cases ex with
          | nil=>exact absurd rfl D
          | cons a r=>simp;exact fun h=>a3 ⟨r,by rw [h];rfl⟩
         have I:Hid (dL A=(mb&&aX ex)):=(by rw [Hid,HW.out,decide_eq_true D];simp);clear D H a2 M a3 HW;generalize ex[0]?.getD 0=c0 at N a7 s1 s2;obtain ⟨d1,d5⟩:=a7;cases mb
         .clear HD
          go_wp2_with fail
          refine (E.out).mono ?_;rintro e Z ⟨rfl,rfl⟩;go_wp2;go_ret;exact ⟨by rw [I.out];rfl,rfl⟩
         .generalize aX ex=ad at HD I
          go_wp2_with fail
          refine (E.out).mono ?_;rintro e Z ⟨rfl,rfl⟩
          go_wp2_with fail
          refine (HD.out).mono ?_;rintro e Z ⟨rfl,rfl⟩;go_wp2;go_ret;exact ⟨by rw [I.out];rfl,rfl⟩
    .have b3:A.all (fun c=>!isE c)=true:=(by rwa [take_of_length_le (by omega)] at G);have HV:Hid (dL A=cQ A):=(by rw [Hid,HX.out,yD b3];simp);clear G b3
     go_wp2_with fail
     refine HM.out.mono ?_;rintro e Z ⟨rfl,rfl⟩;go_wp2;go_ret;exact ⟨by rw [HV.out];rfl,rfl⟩
 .have HX:Hid (dL A=if A.any isE then cQ (A.takeWhile (fun c=>!isE c))&&pM (A.dropWhile (fun c=>!isE c)).tail else cQ A):=(by rw [Hid,HU.out,if_neg (fun h=>h2 h.1)]);clear HU
  go_enter func120,ntmps120
  go_wp2
  go_loopw [3] (fun i wr=>∃ k:Nat,k<=A.length/\i=.int .i64 k/\(A.take k).all (fun c=>!isE c)=true/\w=wr)
   (fun i _=>A.length - (intOf i).toNat)
  case atStart=>exact ⟨0,Nat.zero_le _,rfl,rfl,rfl⟩
  case round=>
   obtain ⟨k,hk,rfl,G,rfl⟩:=hrel
   by_cases b4:k<A.length
   .have a9:=aB (mH A (fun c=>!isE c) k b4 G);have Y:=aB (aMn A k b4 G);have c5:=rZ hb b4 w;have a7:=hb.get k;generalize A[k]?.getD 0=c at c5 a9 Y a7;obtain ⟨d0,f0⟩:=a7;cases hE:isE c
    .have HT:Hid ((A.take (k+1)).all (fun c=>!isE c)=true):=a9.out (by simp [hE]);have c1:(c==101)=false:=(by simp [isE] at hE;simp;omega);have c2:(c==69)=false:=(by simp [isE] at hE;simp;omega);clear a9 Y G;go_wp2
     go_roundw
     case rel=>exact ⟨k+1,by omega,by go_num,HT.out,trivial⟩
     case measure=>simp [intOf];omega
    .obtain ⟨u1,u2,u3⟩:=Y.out hE;have HV:Hid (dL A=(cQ (A.take k)&&pM (A.drop (k+1)))):=(by rw [Hid,HX.out,u1,if_pos rfl,u2,u3]);have x1:(strOfNums A).extract 0 k=strOfNums (A.take k):=by rw [lM];simp
     have x2:(strOfNums A).extract (k+1) A.length=strOfNums (A.drop (k+1)):=by
      rw [lM,take_of_length_le (by rw [length_drop];omega)]
     have F:Bys (A.drop (k+1)):=fun z D=>hb z (mem_of_mem_drop D);have O:(A.drop (k+1)).length<=1048576:=(by rw [length_drop];omega);have E:=aB (HK.out k);clear a9 Y u1 u2 u3 G;generalize A.drop (k+1)=ex at x2 HV F O;generalize cQ (A.take k)=mb at HV E;generalize strOfNums (A.take k)=mz at x1 E;have c4:c=101\/c=69:=(by simpa [isE] using hE);have d2:(strOfNums ex).size=ex.length:=strOfNums_size ex
     have a2:∀ t:List Int,ex.drop 1=t->(strOfNums ex).extract 1 ex.length=strOfNums t:=fun t ht=>by
      rw [lM,take_of_length_le (by rw [length_drop];omega),ht]
     clear hE;rcases c4 with rfl | rfl
     all_goals
      rcases tS ex with ⟨t,S,H⟩ | ⟨t,S,M,H⟩ | ⟨M,a3,H⟩
      .have D:ex≠[]:=(by rw [S];simp);have e0:(strOfNums ex).toList.isEmpty=false:=(by rw [dS,decide_eq_false D]);have N:=fZ F D w;rw [show ex[0]?.getD 0=43 by rw [S];rfl] at N;have xs:=a2 t (by rw [S];rfl);have c3:1<=ex.length:=(by rw [S];simp);have a5:Bys t:=fun z D=>F z (by rw [S];simp [D]);have J:t.length<=1048576:=(by rw [S] at O;simp at O;omega);have HD:=aB (bZ t w a5 J);have e1:=dS t;have HW:Hid (dL A=(mb&&(decide (t≠[])&&aX t))):=(by rw [Hid,HV.out];unfold pM;rw [H]);clear D S H a2 F O a5
       by_cases D:t=[]
       .rw [decide_eq_true D] at e1;have I:Hid (dL A=false):=(by rw [Hid,HW.out,D];cases mb<;>rfl);clear D;cases mb
        all_goals
         go_wp2_with fail
         refine (E.out).mono ?_;rintro e Z ⟨rfl,rfl⟩;go_wp2;go_ret;exact ⟨by rw [I.out];rfl,rfl⟩
       .rw [decide_eq_false D] at e1;have I:Hid (dL A=(mb&&aX t)):=(by rw [Hid,HW.out,decide_eq_true D];simp);clear D HW;cases mb
        .clear HD
         go_wp2_with fail
         refine (E.out).mono ?_;rintro e Z ⟨rfl,rfl⟩;go_wp2;go_ret;exact ⟨by rw [I.out];rfl,rfl⟩
        .generalize aX t=ad at HD I
         go_wp2_with fail
         refine (E.out).mono ?_;rintro e Z ⟨rfl,rfl⟩
         go_wp2_with fail
         refine (HD.out).mono ?_;rintro e Z ⟨rfl,rfl⟩;go_wp2;go_ret;exact ⟨by rw [I.out];rfl,rfl⟩
      .have D:ex≠[]:=(by rw [S];simp);have e0:(strOfNums ex).toList.isEmpty=false:=(by rw [dS,decide_eq_false D]);have N:=fZ F D w;rw [show ex[0]?.getD 0=45 by rw [S];rfl] at N;have xs:=a2 t (by rw [S];rfl);have c3:1<=ex.length:=(by rw [S];simp);have a5:Bys t:=fun z D=>F z (by rw [S];simp [D]);have J:t.length<=1048576:=(by rw [S] at O;simp at O;omega);have HD:=aB (bZ t w a5 J);have e1:=dS t;have HW:Hid (dL A=(mb&&(decide (t≠[])&&aX t))):=(by rw [Hid,HV.out];unfold pM;rw [H]);clear D S H a2 F O a5 M
       by_cases D:t=[]
       .rw [decide_eq_true D] at e1;have I:Hid (dL A=false):=(by rw [Hid,HW.out,D];cases mb<;>rfl);clear D;cases mb
        all_goals
         go_wp2_with fail
         refine (E.out).mono ?_;rintro e Z ⟨rfl,rfl⟩;go_wp2;go_ret;exact ⟨by rw [I.out];rfl,rfl⟩
       .rw [decide_eq_false D] at e1;have I:Hid (dL A=(mb&&aX t)):=(by rw [Hid,HW.out,decide_eq_true D];simp);clear D HW;cases mb
        .clear HD
         go_wp2_with fail
         refine (E.out).mono ?_;rintro e Z ⟨rfl,rfl⟩;go_wp2;go_ret;exact ⟨by rw [I.out];rfl,rfl⟩
        .generalize aX t=ad at HD I
         go_wp2_with fail
         refine (E.out).mono ?_;rintro e Z ⟨rfl,rfl⟩
         go_wp2_with fail
         refine (HD.out).mono ?_;rintro e Z ⟨rfl,rfl⟩;go_wp2;go_ret;exact ⟨by rw [I.out];rfl,rfl⟩
      .have J:=O;have HD:=aB (bZ ex w F J);have HW:Hid (dL A=(mb&&(decide (ex≠[])&&aX ex))):=(by rw [Hid,HV.out];unfold pM;rw [H]);have e1:=dS ex
       by_cases D:ex=[]
       .rw [decide_eq_true D] at e1;have I:Hid (dL A=false):=(by rw [Hid,HW.out,D];cases mb<;>rfl);clear D H a2 M a3;cases mb
        all_goals
         go_wp2_with fail
         refine (E.out).mono ?_;rintro e Z ⟨rfl,rfl⟩;go_wp2;go_ret;exact ⟨by rw [I.out];rfl,rfl⟩
       .rw [decide_eq_false D] at e1;have N:=fZ F D w;have a7:=F.get 0
        have s1:(ex[0]?.getD 0==43)=false:=by
         cases ex with
         | nil=>exact absurd rfl D
         | cons a r=>simp;exact fun h=>M ⟨r,by rw [h];rfl⟩
        have s2:(ex[0]?.getD 0==45)=false:=by
         cases ex with
         | nil=>exact absurd rfl D
         | cons a r=>simp;exact fun h=>a3 ⟨r,by rw [h];rfl⟩
        have I:Hid (dL A=(mb&&aX ex)):=(by rw [Hid,HW.out,decide_eq_true D];simp);clear D H a2 M a3 HW;generalize ex[0]?.getD 0=c0 at N a7 s1 s2;obtain ⟨d1,d5⟩:=a7;cases mb
        .clear HD
         go_wp2_with fail
         refine (E.out).mono ?_;rintro e Z ⟨rfl,rfl⟩;go_wp2;go_ret;exact ⟨by rw [I.out];rfl,rfl⟩
        .generalize aX ex=ad at HD I
         go_wp2_with fail
         refine (E.out).mono ?_;rintro e Z ⟨rfl,rfl⟩
         go_wp2_with fail
         refine (HD.out).mono ?_;rintro e Z ⟨rfl,rfl⟩;go_wp2;go_ret;exact ⟨by rw [I.out];rfl,rfl⟩
   .have b3:A.all (fun c=>!isE c)=true:=(by rwa [take_of_length_le (by omega)] at G);have HV:Hid (dL A=cQ A):=(by rw [Hid,HX.out,yD b3];simp);clear G b3
    go_wp2_with fail
    refine HM.out.mono ?_;rintro e Z ⟨rfl,rfl⟩;go_wp2;go_ret;exact ⟨by rw [HV.out];rfl,rfl⟩
theorem xT (v A) (w:World) (hv:RdB w.heap.size w v A) (N:Bys A) (Y:A.length<=1048576) :
  Calls prog 78 #[v] w fun e Z=>e=.returned (.bool (oP A))/\w=Z:=by
 have a5:=qF hv;have a8:(strOfNums A).size=A.length:=strOfNums_size A;have e1:=dS A
 have I:∀ t:List Int,A.drop 1=t->(strOfNums A).extract 1 A.length=strOfNums t:=fun t ht=>by
  rw [lM,take_of_length_le (by rw [length_drop];omega),ht]
 obtain ⟨a,a7,rfl,_⟩:=hv;rcases tS A with ⟨t,H,E⟩ | ⟨t,H,G,E⟩ | ⟨G,M,E⟩
 .have D:A≠[]:=(by rw [H];simp);rw [decide_eq_false D] at e1;have F:=fZ N D w;rw [show A[0]?.getD 0=43 by rw [H];rfl] at F;have xs:=I t (by rw [H];rfl);have a1:1<=A.length:=(by rw [H];simp);have O:Hid (oP A=dL t):=(by rw [Hid];unfold oP;rw [E]);have J:=aB (pS t w (fun z D=>N z (by rw [H];simp [D])) (by rw [H] at Y;simp at Y;omega));clear D H E I
  go_enter func78,ntmps78
  go_wp2_with fail
  refine J.out.mono ?_;rintro e Z ⟨rfl,rfl⟩;go_wp2;go_ret;exact ⟨by rw [O.out];rfl,rfl⟩
 .have D:A≠[]:=(by rw [H];simp);rw [decide_eq_false D] at e1;have F:=fZ N D w;rw [show A[0]?.getD 0=45 by rw [H];rfl] at F;have xs:=I t (by rw [H];rfl);have a1:1<=A.length:=(by rw [H];simp);have O:Hid (oP A=dL t):=(by rw [Hid];unfold oP;rw [E]);have J:=aB (pS t w (fun z D=>N z (by rw [H];simp [D])) (by rw [H] at Y;simp at Y;omega));clear D H E I G
  go_enter func78,ntmps78
  go_wp2_with fail
  refine J.out.mono ?_;rintro e Z ⟨rfl,rfl⟩;go_wp2;go_ret;exact ⟨by rw [O.out];rfl,rfl⟩
 .have O:Hid (oP A=dL A):=(by rw [Hid];unfold oP;rw [E]);have J:=aB (pS A w N Y)
  by_cases D:A=[]
  .rw [decide_eq_true D] at e1;clear D E I G M
   go_enter func78,ntmps78
   go_wp2_with fail
   refine J.out.mono ?_;rintro e Z ⟨rfl,rfl⟩;go_wp2;go_ret;exact ⟨by rw [O.out];rfl,rfl⟩
  .rw [decide_eq_false D] at e1;have F:=fZ N D w;have S:=N.get 0
   have s1:(A[0]?.getD 0==43)=false:=by
    cases A with
    | nil=>exact absurd rfl D
    | cons a r=>simp;exact fun h=>G ⟨r,by rw [h];rfl⟩
   have s2:(A[0]?.getD 0==45)=false:=by
    cases A with
    | nil=>exact absurd rfl D
    | cons a r=>simp;exact fun h=>M ⟨r,by rw [h];rfl⟩
   clear D E I G M;generalize A[0]?.getD 0=c0 at F S s1 s2;obtain ⟨a6,a3⟩:=S
   go_enter func78,ntmps78
   go_wp2_with fail
   refine J.out.mono ?_;rintro e Z ⟨rfl,rfl⟩;go_wp2;go_ret;exact ⟨by rw [O.out];rfl,rfl⟩
end Go.Proofs.YtckcaefnokeodaaGreatDoor
