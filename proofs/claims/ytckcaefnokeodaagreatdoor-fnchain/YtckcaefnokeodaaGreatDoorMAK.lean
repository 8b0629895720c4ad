import Derived.Test.YtckcaefnokeodaaGreatDoorMAJ
set_option maxHeartbeats 16000000
set_option maxRecDepth 100000
namespace Go.Proofs.YtckcaefnokeodaaGreatDoor
open Go.Proofs.Tryz Go.RowKit List World
theorem rE {l:List Int} (h:l.all (fun z=>decide (0<=z/\z<=255))=true):Bys l:=fun z A=>by
 have:=all_eq_true.1 h z A;simpa using this
theorem aL2 {A D w} {r:List Int} (h:St A D w ([73,110,102,105,110,105,116,121]++r)) :
  Calls prog 162 #[.pointer (some ⟨A,0,none⟩),.string { data:=#[73,110,102,105,110,105,116,121] }] w fun e E=>e=.returned (.bool true)/\St A D E r:=fD [73,110,102,105,110,105,116,121] r (rE (by decide)) (by simp) h
theorem zL {A D w} {s:List Int} (F:¬ [73,110,102,105,110,105,116,121] <+: s) (h:St A D w s) :
  Calls prog 162 #[.pointer (some ⟨A,0,none⟩),.string { data:=#[73,110,102,105,110,105,116,121] }] w fun e E=>e=.returned (.bool false)/\St A D E s:=gV [73,110,102,105,110,105,116,121] s (rE (by decide)) (by simp) F h
theorem aMt {A D w} {r:List Int} (h:St A D w ([78,97,78]++r)) :
  Calls prog 162 #[.pointer (some ⟨A,0,none⟩),.string { data:=#[78,97,78] }] w fun e E=>e=.returned (.bool true)/\St A D E r:=fD [78,97,78] r (rE (by decide)) (by simp) h
theorem aCT {A D w} {s:List Int} (F:¬ [78,97,78] <+: s) (h:St A D w s) :
  Calls prog 162 #[.pointer (some ⟨A,0,none⟩),.string { data:=#[78,97,78] }] w fun e E=>e=.returned (.bool false)/\St A D E s:=gV [78,97,78] s (rE (by decide)) (by simp) F h
theorem yx {A D w} {r:List Int} (h:St A D w ([48,120]++r)) :
  Calls prog 162 #[.pointer (some ⟨A,0,none⟩),.string { data:=#[48,120] }] w fun e E=>e=.returned (.bool true)/\St A D E r:=fD [48,120] r (rE (by decide)) (by simp) h
theorem nx {A D w} {s:List Int} (F:¬ [48,120] <+: s) (h:St A D w s) :
  Calls prog 162 #[.pointer (some ⟨A,0,none⟩),.string { data:=#[48,120] }] w fun e E=>e=.returned (.bool false)/\St A D E s:=gV [48,120] s (rE (by decide)) (by simp) F h
theorem yX {A D w} {r:List Int} (h:St A D w ([48,88]++r)) :
  Calls prog 162 #[.pointer (some ⟨A,0,none⟩),.string { data:=#[48,88] }] w fun e E=>e=.returned (.bool true)/\St A D E r:=fD [48,88] r (rE (by decide)) (by simp) h
theorem nX {A D w} {s:List Int} (F:¬ [48,88] <+: s) (h:St A D w s) :
  Calls prog 162 #[.pointer (some ⟨A,0,none⟩),.string { data:=#[48,88] }] w fun e E=>e=.returned (.bool false)/\St A D E s:=gV [48,88] s (rE (by decide)) (by simp) F h
theorem skh {A D w s} (h:St A D w s) :
  Calls prog 163 #[.pointer (some ⟨A,0,none⟩),.func (.func 164) #[] #[]] w fun e E=>e=.returned (.bool (eB eQ s))/\St A D E (s.dropWhile eQ):=aGC _ eQ aId aKq s h
theorem aMo (s:List Int):(∃ r,s=[73,110,102,105,110,105,116,121]++r/\lK s=(true,r))\/
  (¬ [73,110,102,105,110,105,116,121] <+: s/\∃ r,s=[78,97,78]++r/\lK s=(true,r))\/
  (¬ [73,110,102,105,110,105,116,121] <+: s/\¬ [78,97,78] <+: s/\∃ r,s=[48,120]++r/\lK s=(eB eQ r,r.dropWhile eQ))\/
  (¬ [73,110,102,105,110,105,116,121] <+: s/\¬ [78,97,78] <+: s/\¬ [48,120] <+: s/\∃ r,s=[48,88]++r/\lK s=(eB eQ r,r.dropWhile eQ))\/
  (¬ [73,110,102,105,110,105,116,121] <+: s/\¬ [78,97,78] <+: s/\¬ [48,120] <+: s/\¬ [48,88] <+: s/\lK s=iB s):=by
 by_cases h:oY <+: s
 .obtain ⟨r,rfl⟩:=id h;exact .inl ⟨r,rfl,by unfold lK;rw [if_pos h];rfl⟩
 .by_cases A:nan <+: s
  .obtain ⟨r,rfl⟩:=id A;exact .inr (.inl ⟨h,r,rfl,by unfold lK;rw [if_neg h,if_pos A];rfl⟩)
  .by_cases D:[48,120] <+: s
   .obtain ⟨r,rfl⟩:=id D;refine .inr (.inr (.inl ⟨h,A,r,rfl,?_⟩));unfold lK;rw [if_neg h,if_neg A];simp [isX,aAY]
   .by_cases E:[48,88] <+: s
    .obtain ⟨r,rfl⟩:=id E;refine .inr (.inr (.inr (.inl ⟨h,A,D,r,rfl,?_⟩)));unfold lK;rw [if_neg h,if_neg A];simp [isX,aAY]
    .refine .inr (.inr (.inr (.inr ⟨h,A,D,E,?_⟩)));unfold lK;rw [if_neg h,if_neg A]
     match s,D,E with
     | [],_,_=>rfl
     | [c],_,_=>rfl
     | c::x::r,D,E=>
       simp only;rw [if_neg];rintro ⟨rfl,G⟩;have F:x=120\/x=88:=(by simpa [isX] using G);rcases F with rfl | rfl
       .exact D ⟨r,rfl⟩
       .exact E ⟨r,rfl⟩
theorem aBO {sb w0 w} (s) (h:St sb w0 w s) :
  Calls prog 150 #[.pointer (some ⟨sb,0,none⟩)] w fun e A=>e=.returned (.bool (lK (eG s)).1)/\St sb w0 A (lK (eG s)).2:=by
 rcases tS s with ⟨t,rfl,hq⟩ | ⟨t,rfl,M,hq⟩ | ⟨M,Z,hq⟩
 .rw [hq];clear hq;rcases aMo t with ⟨r,F,D⟩ | ⟨E,r,F,D⟩ | ⟨E,G,r,F,D⟩ | ⟨E,G,N,r,F,D⟩ | ⟨E,G,N,h2,D⟩
  .rw [D];clear D;have H:=aB F;clear F
   go_enter func150,ntmps150
   go_wp2_with fail
   refine (y43 h).mono ?_;rintro e A ⟨rfl,h⟩
   go_wp2_with fail
   refine (aL2 (H.out ▸ h)).mono ?_;rintro e A ⟨rfl,h⟩;go_wp2;go_ret;exact ⟨rfl,h⟩
  .rw [D];have J:=aB E;clear D E;have H:=aB F;clear F
   go_enter func150,ntmps150
   go_wp2_with fail
   refine (y43 h).mono ?_;rintro e A ⟨rfl,h⟩
   go_wp2_with fail
   refine (zL J.out h).mono ?_;rintro e A ⟨rfl,h⟩
   go_wp2_with fail
   refine (aMt (H.out ▸ h)).mono ?_;rintro e A ⟨rfl,h⟩;go_wp2;go_ret;exact ⟨rfl,h⟩
  .rw [D];have J:=aB E;have O:=aB G;clear D E G;have H:=aB F;clear F
   go_enter func150,ntmps150
   go_wp2_with fail
   refine (y43 h).mono ?_;rintro e A ⟨rfl,h⟩
   go_wp2_with fail
   refine (zL J.out h).mono ?_;rintro e A ⟨rfl,h⟩
   go_wp2_with fail
   refine (aCT O.out h).mono ?_;rintro e A ⟨rfl,h⟩
   go_wp2_with fail
   refine (yx (H.out ▸ h)).mono ?_;rintro e A ⟨rfl,h⟩
   go_wp2_with fail
   refine (skh h).mono ?_;rintro e A ⟨rfl,h⟩;go_wp2;go_ret;exact ⟨rfl,h⟩
  .rw [D];have J:=aB E;have O:=aB G;have S:=aB N;clear D E G N;have H:=aB F;clear F
   go_enter func150,ntmps150
   go_wp2_with fail
   refine (y43 h).mono ?_;rintro e A ⟨rfl,h⟩
   go_wp2_with fail
   refine (zL J.out h).mono ?_;rintro e A ⟨rfl,h⟩
   go_wp2_with fail
   refine (aCT O.out h).mono ?_;rintro e A ⟨rfl,h⟩
   go_wp2_with fail
   refine (nx S.out h).mono ?_;rintro e A ⟨rfl,h⟩
   go_wp2_with fail
   refine (yX (H.out ▸ h)).mono ?_;rintro e A ⟨rfl,h⟩
   go_wp2_with fail
   refine (skh h).mono ?_;rintro e A ⟨rfl,h⟩;go_wp2;go_ret;exact ⟨rfl,h⟩
  .rw [D];have J:=aB E;have O:=aB G;have S:=aB N;have H2:=aB h2;clear D E G N h2
   go_enter func150,ntmps150
   go_wp2_with fail
   refine (y43 h).mono ?_;rintro e A ⟨rfl,h⟩
   go_wp2_with fail
   refine (zL J.out h).mono ?_;rintro e A ⟨rfl,h⟩
   go_wp2_with fail
   refine (aCT O.out h).mono ?_;rintro e A ⟨rfl,h⟩
   go_wp2_with fail
   refine (nx S.out h).mono ?_;rintro e A ⟨rfl,h⟩
   go_wp2_with fail
   refine (nX H2.out h).mono ?_;rintro e A ⟨rfl,h⟩
   go_wp2_with fail
   refine (nL _ h).mono ?_;rintro e A ⟨rfl,h⟩;go_wp2;go_ret;exact ⟨rfl,h⟩
 .rw [hq];have I:=aB M;clear hq M;rcases aMo t with ⟨r,F,D⟩ | ⟨E,r,F,D⟩ | ⟨E,G,r,F,D⟩ | ⟨E,G,N,r,F,D⟩ | ⟨E,G,N,h2,D⟩
  .rw [D];clear D;have H:=aB F;clear F
   go_enter func150,ntmps150
   go_wp2_with fail
   refine (n43 I.out h).mono ?_;rintro e A ⟨rfl,h⟩
   go_wp2_with fail
   refine (y45 h).mono ?_;rintro e A ⟨rfl,h⟩
   go_wp2_with fail
   refine (aL2 (H.out ▸ h)).mono ?_;rintro e A ⟨rfl,h⟩;go_wp2;go_ret;exact ⟨rfl,h⟩
  .rw [D];have J:=aB E;clear D E;have H:=aB F;clear F
   go_enter func150,ntmps150
   go_wp2_with fail
   refine (n43 I.out h).mono ?_;rintro e A ⟨rfl,h⟩
   go_wp2_with fail
   refine (y45 h).mono ?_;rintro e A ⟨rfl,h⟩
   go_wp2_with fail
   refine (zL J.out h).mono ?_;rintro e A ⟨rfl,h⟩
   go_wp2_with fail
   refine (aMt (H.out ▸ h)).mono ?_;rintro e A ⟨rfl,h⟩;go_wp2;go_ret;exact ⟨rfl,h⟩
  .rw [D];have J:=aB E;have O:=aB G;clear D E G;have H:=aB F;clear F
   go_enter func150,ntmps150
   go_wp2_with fail
   refine (n43 I.out h).mono ?_;rintro e A ⟨rfl,h⟩
   go_wp2_with fail
   refine (y45 h).mono ?_;rintro e A ⟨rfl,h⟩
   go_wp2_with fail
   refine (zL J.out h).mono ?_;rintro e A ⟨rfl,h⟩
   go_wp2_with fail
   refine (aCT O.out h).mono ?_;rintro e A ⟨rfl,h⟩
   go_wp2_with fail
   refine (yx (H.out ▸ h)).mono ?_;rintro e A ⟨rfl,h⟩
   go_wp2_with fail
   refine (skh h).mono ?_;rintro e A ⟨rfl,h⟩;go_wp2;go_ret;exact ⟨rfl,h⟩
  .rw [D];have J:=aB E;have O:=aB G;have S:=aB N;clear D E G N;have H:=aB F;clear F
   go_enter func150,ntmps150
   go_wp2_with fail
   refine (n43 I.out h).mono ?_;rintro e A ⟨rfl,h⟩
   go_wp2_with fail
   refine (y45 h).mono ?_;rintro e A ⟨rfl,h⟩
   go_wp2_with fail
   refine (zL J.out h).mono ?_;rintro e A ⟨rfl,h⟩
   go_wp2_with fail
   refine (aCT O.out h).mono ?_;rintro e A ⟨rfl,h⟩
   go_wp2_with fail
   refine (nx S.out h).mono ?_;rintro e A ⟨rfl,h⟩
   go_wp2_with fail
   refine (yX (H.out ▸ h)).mono ?_;rintro e A ⟨rfl,h⟩
   go_wp2_with fail
   refine (skh h).mono ?_;rintro e A ⟨rfl,h⟩;go_wp2;go_ret;exact ⟨rfl,h⟩
  .rw [D];have J:=aB E;have O:=aB G;have S:=aB N;have H2:=aB h2;clear D E G N h2
   go_enter func150,ntmps150
   go_wp2_with fail
   refine (n43 I.out h).mono ?_;rintro e A ⟨rfl,h⟩
   go_wp2_with fail
   refine (y45 h).mono ?_;rintro e A ⟨rfl,h⟩
   go_wp2_with fail
   refine (zL J.out h).mono ?_;rintro e A ⟨rfl,h⟩
   go_wp2_with fail
   refine (aCT O.out h).mono ?_;rintro e A ⟨rfl,h⟩
   go_wp2_with fail
   refine (nx S.out h).mono ?_;rintro e A ⟨rfl,h⟩
   go_wp2_with fail
   refine (nX H2.out h).mono ?_;rintro e A ⟨rfl,h⟩
   go_wp2_with fail
   refine (nL _ h).mono ?_;rintro e A ⟨rfl,h⟩;go_wp2;go_ret;exact ⟨rfl,h⟩
 .rw [hq];have I:=aB M;have Y:=aB Z;clear hq M Z;rcases aMo s with ⟨r,F,D⟩ | ⟨E,r,F,D⟩ | ⟨E,G,r,F,D⟩ | ⟨E,G,N,r,F,D⟩ | ⟨E,G,N,h2,D⟩
  .rw [D];clear D;have H:=aB F;clear F
   go_enter func150,ntmps150
   go_wp2_with fail
   refine (n43 I.out h).mono ?_;rintro e A ⟨rfl,h⟩
   go_wp2_with fail
   refine (n45 Y.out h).mono ?_;rintro e A ⟨rfl,h⟩
   go_wp2_with fail
   refine (aL2 (H.out ▸ h)).mono ?_;rintro e A ⟨rfl,h⟩;go_wp2;go_ret;exact ⟨rfl,h⟩
  .rw [D];have J:=aB E;clear D E;have H:=aB F;clear F
   go_enter func150,ntmps150
   go_wp2_with fail
   refine (n43 I.out h).mono ?_;rintro e A ⟨rfl,h⟩
   go_wp2_with fail
   refine (n45 Y.out h).mono ?_;rintro e A ⟨rfl,h⟩
   go_wp2_with fail
   refine (zL J.out h).mono ?_;rintro e A ⟨rfl,h⟩
   go_wp2_with fail
   refine (aMt (H.out ▸ h)).mono ?_;rintro e A ⟨rfl,h⟩;go_wp2;go_ret;exact ⟨rfl,h⟩
  .rw [D];have J:=aB E;have O:=aB G;clear D E G;have H:=aB F;clear F
   go_enter func150,ntmps150
   go_wp2_with fail
   refine (n43 I.out h).mono ?_;rintro e A ⟨rfl,h⟩
   go_wp2_with fail
   refine (n45 Y.out h).mono ?_;rintro e A ⟨rfl,h⟩
   go_wp2_with fail
   refine (zL J.out h).mono ?_;rintro e A ⟨rfl,h⟩
   go_wp2_with fail
   refine (aCT O.out h).mono ?_;rintro e A ⟨rfl,h⟩
   go_wp2_with fail
   refine (yx (H.out ▸ h)).mono ?_;rintro e A ⟨rfl,h⟩
   go_wp2_with fail
   refine (skh h).mono ?_;rintro e A ⟨rfl,h⟩;go_wp2;go_ret;exact ⟨rfl,h⟩
  .rw [D];have J:=aB E;have O:=aB G;have S:=aB N;clear D E G N;have H:=aB F;clear F
   go_enter func150,ntmps150
   go_wp2_with fail
   refine (n43 I.out h).mono ?_;rintro e A ⟨rfl,h⟩
   go_wp2_with fail
   refine (n45 Y.out h).mono ?_;rintro e A ⟨rfl,h⟩
   go_wp2_with fail
   refine (zL J.out h).mono ?_;rintro e A ⟨rfl,h⟩
   go_wp2_with fail
   refine (aCT O.out h).mono ?_;rintro e A ⟨rfl,h⟩
   go_wp2_with fail
   refine (nx S.out h).mono ?_;rintro e A ⟨rfl,h⟩
   go_wp2_with fail
   refine (yX (H.out ▸ h)).mono ?_;rintro e A ⟨rfl,h⟩
   go_wp2_with fail
   refine (skh h).mono ?_;rintro e A ⟨rfl,h⟩;go_wp2;go_ret;exact ⟨rfl,h⟩
  .rw [D];have J:=aB E;have O:=aB G;have S:=aB N;have H2:=aB h2;clear D E G N h2
   go_enter func150,ntmps150
   go_wp2_with fail
   refine (n43 I.out h).mono ?_;rintro e A ⟨rfl,h⟩
   go_wp2_with fail
   refine (n45 Y.out h).mono ?_;rintro e A ⟨rfl,h⟩
   go_wp2_with fail
   refine (zL J.out h).mono ?_;rintro e A ⟨rfl,h⟩
   go_wp2_with fail
   refine (aCT O.out h).mono ?_;rintro e A ⟨rfl,h⟩
   go_wp2_with fail
   refine (nx S.out h).mono ?_;rintro e A ⟨rfl,h⟩
   go_wp2_with fail
   refine (nX H2.out h).mono ?_;rintro e A ⟨rfl,h⟩
   go_wp2_with fail
   refine (nL _ h).mono ?_;rintro e A ⟨rfl,h⟩;go_wp2;go_ret;exact ⟨rfl,h⟩
theorem yE (v h) (w:World) (O:RdB w.heap.size w v h) (Y:Sl v h.length) (hb:Bys h) (hl:h.length<=1048576) (M:Tab w) :
  Calls prog 131 #[v] w fun e w'=>e=.returned (.bool (dG h))/\w.grownBy w' none:=by
 have H:=grownBy_alloc w (.cells #[v,.int .i64 0] 215) none;have A:=M.pos
 have E:St w.heap.size (w.alloc (.cells #[v,.int .i64 0] 215)) (w.alloc (.cells #[v,.int .i64 0] 215)) h:=
  ⟨v,h,0,Nat.zero_le _,by simp,by simpa using aJC w v 0,⟨O.K H,Y,hb,hl⟩,M.K H,A,grownBy.refl _ _⟩
 have I:=aB (aBO h E);have N:=aB H;have J:Hid (dG h=((lK (eG h)).1&&decide ((lK (eG h)).2=[]))):=rfl;obtain ⟨a,Z,rfl,_⟩:=O;clear E H A M Y;generalize lK (eG h)=u at I J;obtain ⟨u1,u2⟩:=u;cases u1
 .go_enter func131,ntmps131
  go_wp2_with fail
  refine I.out.mono ?_;rintro e S ⟨rfl,D⟩;have F:=(by obtain ⟨_,_,_,_,_,_,_,_,_,g⟩:=D;exact g:grownBy _ S _);have G:=aB (uC N.out (Nat.le_refl _) F);clear D F;go_wp2;go_ret;exact ⟨by rw [J.out];rfl,G.out⟩
 .go_enter func131,ntmps131
  go_wp2_with fail
  refine I.out.mono ?_;rintro e S ⟨rfl,D⟩
  go_wp2_with fail
  refine (aJU _ D).mono ?_;rintro e w2 ⟨rfl,D⟩;have F:=(by obtain ⟨_,_,_,_,_,_,_,_,_,g⟩:=D;exact g:grownBy _ w2 _);have G:=aB (uC N.out (Nat.le_refl _) F);clear D F;go_wp2;go_ret;exact ⟨by rw [J.out];rfl,G.out⟩
theorem iG (k:Int) (w):Calls prog 93 #[.int .i64 k] w fun e E=>e=.returned (.bool (decide (k=5\/k=6)))/\w=E:=by
 by_cases A:k=5
 .subst A
  go_enter func93,ntmps93
  go_wp2;go_ret;exact ⟨rfl,rfl⟩
 .have F:(k==5)=false:=by simpa using A
  by_cases h:k=6
  .subst h
   go_enter func93,ntmps93
   go_wp2;go_ret;exact ⟨rfl,rfl⟩
  .have G:(k==6)=false:=(by simpa using h);have D:Hid (decide (k=5\/k=6)=false):=(by unfold Hid;simp [A,h]);rw [D.out]
   go_enter func93,ntmps93
   go_wp2;go_ret;exact ⟨by first | rfl | simp [h],rfl⟩
def aBs (p:Nod):Bool:=
 decide (0<=p.k/\p.k<=6)&&((p.mem||decide (p.key=[]))&&((decide (p.k=3)||decide (p.X=[]))&&((decide (p.k=4)||decide (p.U=[]))&&(if 5<=p.k then decide (0<=p.C) else (decide (p.C=0)&&decide (p.tail=[]))))))
theorem aAK (p):aBs p=true ↔ aAI p:=by
 unfold aBs aAI;simp only [Bool.and_eq_true,Bool.or_eq_true,decide_eq_true_eq];constructor
 .rintro ⟨D,E,F,A,h⟩;refine ⟨D,E,fun e=>F.resolve_left e,fun e=>A.resolve_left e,fun e=>?_,fun e=>?_⟩
  .rw [if_pos e] at h;exact of_decide_eq_true h
  .rw [if_neg (by omega)] at h;rw [Bool.and_eq_true,decide_eq_true_eq,decide_eq_true_eq] at h;exact h
 .rintro ⟨D,E,F,A,h,G⟩;refine ⟨D,E,?_,?_,?_⟩
  .by_cases e:p.k=3
   .exact .inl e
   .exact .inr (F e)
  .by_cases e:p.k=4
   .exact .inl e
   .exact .inr (A e)
  .by_cases e:5<=p.k
   .rw [if_pos e];exact decide_eq_true (h e)
   .rw [if_neg e,Bool.and_eq_true,decide_eq_true_eq,decide_eq_true_eq];exact G (by omega)
theorem zS {α:Type} (l:List α):l=[] ↔ (l.length:Int)=0:=by
 constructor
 .rintro rfl;rfl
 .intro h;exact eq_nil_of_length_eq_zero (by omega)
theorem aEX (p):aBs p=true ↔ ((0<=p.k/\p.k<=6)/\(p.mem=true\/(p.key.length:Int)=0)/\(p.k≠3->(p.X.length:Int)=0)/\(p.k≠4->(p.U.length:Int)=0)/\(5<=p.k->0<=p.C)/\(p.k<5->p.C=0/\(p.tail.length:Int)=0)):=by
 rw [aAK];unfold aAI;rw [zS p.key,zS p.X,zS p.U,zS p.tail]
theorem aDq (p:Nod) (S M J N Y:Option Addr) (F D A G E:Nat) (w) (l1:p.key.length<=1048576) (l2:p.U.length<=1048576) (l3:p.X.length<=1048576) (l4:p.tail.length<=1048576) :
  Calls prog 129 #[.agg #[.int .i64 p.k,.slice S p.L.length F,.bool p.mem,.slice M p.key.length D,.slice J p.X.length A,.slice N p.U.length G,.int .i64 p.C,.slice Y p.tail.length E]] w fun e O=>e=.returned (.bool (aBs p))/\w.grownBy O none:=by
 have H:=aB (fun (k:Int) (w:World)=>iG k w);cases I:p.mem with
 | true=>
   have h:=aB (aEX p);rw [I] at h;clear I
   go_enter func129,ntmps129
   go_wp2_with (go_at_call 93;refine (H.out _ _).mono ?_;rintro e Z ⟨rfl,rfl⟩)
   all_goals go_ret
   all_goals refine ⟨?_,gWA⟩
   all_goals refine congrArg (fun b=>Ending.returned (Value.bool b)) (?_:_=aBs p)
   all_goals rw [Bool.eq_iff_iff,h.out]
   all_goals clear h H
   all_goals generalize p.key.length=n1 at *
   all_goals generalize p.X.length=n2 at *
   all_goals generalize p.U.length=n3 at *
   all_goals generalize p.tail.length=n4 at *
   all_goals generalize p.k=kk at *
   all_goals generalize p.C=cc at *
   all_goals try simp
   all_goals try simp only [bne_eq_false_iff_eq] at *
   all_goals omega
 | false=>
   have h:=aB (aEX p);rw [I] at h;clear I
   go_enter func129,ntmps129
   go_wp2_with (go_at_call 93;refine (H.out _ _).mono ?_;rintro e Z ⟨rfl,rfl⟩)
   all_goals go_ret
   all_goals refine ⟨?_,gWA⟩
   all_goals refine congrArg (fun b=>Ending.returned (Value.bool b)) (?_:_=aBs p)
   all_goals rw [Bool.eq_iff_iff,h.out]
   all_goals clear h H
   all_goals generalize p.key.length=n1 at *
   all_goals generalize p.X.length=n2 at *
   all_goals generalize p.U.length=n3 at *
   all_goals generalize p.tail.length=n4 at *
   all_goals generalize p.k=kk at *
   all_goals generalize p.C=cc at *
   all_goals try simp
   all_goals try simp only [bne_eq_false_iff_eq] at *
   all_goals omega
theorem N8.row {W E b} {h:Nat} {p lv D G H F} (n:N8 W b p lv D G H F) (g:W.grownBy E (some h)) (I:b≠h):N8 E b p lv D G H F:=
 have A:some b≠some h:=fun e=>I (by cases e;rfl)
 ⟨g.cell n.c0 A,g.cell n.c1 A,g.cell n.c2 A,g.cell n.c3 A,g.cell n.c4 A,g.cell n.c5 A,g.cell n.c6 A,g.cell n.c7 A⟩
structure aLt (w0 W:World) (B h b:Nat) (m:Int) (p:Nod) (lv kv xv uv tv:Value):Prop where
 x:Cx W B m
 l:RdC B W lv p.L
 k:RdI B W kv p.key
 t:RdB B W xv p.X
 u:RdI B W uv p.U
 e:RdC B W tv p.tail
 n:N8 W b p lv kv xv uv tv
 g:w0.grownBy W (some h)
theorem aLt.row {J W E B h b m p lv D G I F} (s:aLt J W B h b m p lv D G I F) (g:W.grownBy E (some h)) (H:B<=h) (M:b≠h):aLt J E B h b m p lv D G I F:=
 have A:∀ k,some h=some k->B<=k:=fun k e=>by cases e;exact H
 ⟨s.x.below (lX g H s.x.s) g.size,s.l.beside g A,s.k.beside g A,s.t.beside g A,s.u.beside g A,s.e.beside g A,s.n.row g M,aT s.g g⟩
open Classical in
theorem aLh {p:Nod} {c r:Int} (h:¬ aAI p):dV bH dG p (c,r)=none:=by unfold dV;rw [if_pos h]
open Classical in
theorem aLC {p} {c r:Int} (h:aAI p) (A:¬ ((p.key.length:Int)<=r/\p.key.all cD=true)):dV bH dG p (c,r)=none:=by
 unfold dV;rw [if_neg (fun D=>D h),if_pos]
 by_cases E:(p.key.length:Int)<=r
 .right;exact Bool.eq_false_iff.2 (fun e=>A ⟨E,e⟩)
 .left;show r - (p.key.length:Int)<0;omega
open Classical in
theorem aHx {p} {c r:Int} (h:aAI p) (D:(p.key.length:Int)<=r/\p.key.all cD=true) (E:¬ ((p.U.length:Int)<=r - p.key.length/\p.U.all cD=true)):dV bH dG p (c,r)=none:=by
 unfold dV;rw [if_neg (fun F=>F h),if_neg,if_pos]
 .by_cases A:(p.U.length:Int)<=r - p.key.length
  .right;exact Bool.eq_false_iff.2 (fun e=>E ⟨A,e⟩)
  .left;show r - (p.key.length:Int) - p.U.length<0;omega
 .rintro (A | A)
  .have:r - (p.key.length:Int)<0:=A;omega
  .rw [D.2] at A;cases A
open Classical in
theorem aKk {p} {c r:Int} (h:aAI p) (A:(p.key.length:Int)<=r/\p.key.all cD=true) (D:(p.U.length:Int)<=r - p.key.length/\p.U.all cD=true) :
  dV bH dG p (c,r)=if r - p.key.length - p.U.length - p.X.length<0 then none else if p.k=3/\dG p.X=false then none else (mW bH p.L (c,r - p.key.length - p.U.length - p.X.length)).bind fun F=>mW bH p.tail F:=by
 unfold dV;rw [if_neg (fun E=>E h),if_neg,if_neg]
 .rintro (h1 | h1)
  .have:r - (p.key.length:Int) - p.U.length<0:=h1;omega
  .rw [D.2] at h1;cases h1
 .rintro (h1 | h1)
  .have:r - (p.key.length:Int)<0:=h1;omega
  .rw [A.2] at h1;cases h1
theorem vO (h v) (p:Nod) (lv kv xv uv tv c r m B w) (hk:Ck w h v c r) (hx:Cx w B m) (S:B<=h) (rl:RdC B w lv p.L) (rk:RdI B w kv p.key) (sk:Sl kv p.key.length) (rx:RdB B w xv p.X) (sx:Sl xv p.X.length) (ru:RdI B w uv p.U) (su:Sl uv p.U.length) (rt:RdC B w tv p.tail) (ho:zM p) (hr:0<=r/\r<=1048576) (hc : -1048576<=c/\c<=1048576) :
  Calls prog 92 #[.pointer (some ⟨h,0,none⟩),.agg #[.int .i64 p.k,lv,.bool p.mem,kv,xv,uv,.int .i64 p.C,tv]] w fun e w'=>∃ (b:Bool) (c' r':Int),e=.returned (.bool b)/\Ck w' h v c' r'/\dV bH dG p (c,r)=(if b then some (c',r') else none)/\w.grownBy w' (some h):=by
 have n0:=hk.lt;obtain ⟨la,F,j4,_,_⟩:=rl.sl;obtain ⟨ta,D,h5,_,_⟩:=rt.sl;obtain ⟨ka,I,i3,k1,k2⟩:=id sk;obtain ⟨xa,E,h6,x1,x2⟩:=id sx;obtain ⟨ua,J,g9,u1,u2⟩:=id su;have l1:=ho.k;have l2:=ho.u;have l3:=ho.x.1;have l4:=ho.t.1;have SX:=aB sx;have HO:=aB ho;subst j4 h5 i3 h6 g9;have gA:=grownBy_alloc w (Obj.cells #[.int .i64 p.k,.slice la p.L.length F,.bool p.mem,.slice ka p.key.length I,.slice xa p.X.length E,.slice ua p.U.length J,.int .i64 p.C,.slice ta p.tail.length D] 49) none
 have M0:Hid (aLt w (w.alloc (Obj.cells #[.int .i64 p.k,.slice la p.L.length F,.bool p.mem,.slice ka p.key.length I,.slice xa p.X.length E,.slice ua p.U.length J,.int .i64 p.C,.slice ta p.tail.length D] 49)) B h w.heap.size m p (.slice la p.L.length F) (.slice ka p.key.length I) (.slice xa p.X.length E) (.slice ua p.U.length J) (.slice ta p.tail.length D)):=
  ⟨hx.below ((aV gA).mono hx.s) gA.size,rl.K gA,rk.K gA,rx.K gA,ru.K gA,rt.K gA,⟨by simp [go_sem],by simp [go_sem],by simp [go_sem],by simp [go_sem],by simp [go_sem],by simp [go_sem],by simp [go_sem],by simp [go_sem]⟩,eJ gA _⟩
 have K0:=aB (hk.K gA);have G:w.heap.size≠h:=(by omega);have d7:=aB (fun w=>aDq p la ka xa ua ta F I E J D w l1 l2 l3 l4);clear gA rl rk sk rx sx ru su rt ho hk hx
 go_enter func92,ntmps92
 go_wp2_with fail
 refine (d7.out _).mono ?_;rintro e w1 ⟨rfl,g1⟩;have K1:=aB (K0.out.K g1);have M1:=aB (M0.out.row (eJ g1 _) S G);clear g1;obtain ⟨q0,Z,q2,Y,q4,q5,q6,q7⟩:=M1.out.n;cases hf:aBs p with
 | false=>
   have M:=aB (aLh (c:=c) (r:=r) (fun H=>by rw [(aAK p).2 H] at hf;cases hf));go_wp2;go_ret;exact ⟨false,_,_,rfl,K1.out,M.out,M1.out.g⟩
 | true=>
   have c9:=aB ((aAK p).1 hf);have h8:=aB (tM h v (.slice ka p.key.length I) p.key c r w1 K1.out B M1.out.k S l1 hr)
   go_wp2_with fail
   refine h8.out.mono ?_;rintro e w2 ⟨rfl,f2,g2⟩;have K2:=aB f2;have M2:=aB (M1.out.row g2 S G);clear f2 g2 q0 Z q2 Y q4 q5 q6 q7;obtain ⟨q0,Z,q2,Y,q4,q5,q6,q7⟩:=M2.out.n;cases b1:(decide ((p.key.length:Int)<=r)&&p.key.all cD) with
   | false=>
     have M:=aB (aLC (c:=c) (r:=r) c9.out (fun H=>by rw [decide_eq_true H.1,H.2] at b1;cases b1));go_wp2;go_ret;exact ⟨false,_,_,rfl,K2.out,M.out,M2.out.g⟩
   | true=>
     have c4:(p.key.length:Int)<=r/\p.key.all cD=true:=by
      rw [Bool.and_eq_true,decide_eq_true_eq] at b1;exact b1
     have c3:=aB c4;obtain ⟨n1,_⟩:=c4;have h7:=aB (tM h v (.slice ua p.U.length J) p.U c (r - p.key.length) w2 K2.out B M2.out.u S l2 (by omega));clear b1
     go_wp2_with fail
     refine h7.out.mono ?_;rintro e w3 ⟨rfl,f5,g3⟩;have K3:=aB f5;have M3:=aB (M2.out.row g3 S G);clear f5 g3 q0 Z q2 Y q4 q5 q6 q7;obtain ⟨q0,Z,q2,Y,q4,q5,q6,q7⟩:=M3.out.n;cases a7:(decide ((p.U.length:Int)<=r - p.key.length)&&p.U.all cD) with
     | false=>
       have M:=aB (aHx (c:=c) (r:=r) c9.out c3.out (fun H=>by rw [decide_eq_true H.1,H.2] at a7;cases a7));go_wp2;go_ret;exact ⟨false,_,_,rfl,K3.out,M.out,M3.out.g⟩
     | true=>
       have c2:(p.U.length:Int)<=r - p.key.length/\p.U.all cD=true:=by
        rw [Bool.and_eq_true,decide_eq_true_eq] at a7;exact a7
       have O:=aB (aKk (c:=c) c9.out c3.out c2);obtain ⟨n5,_⟩:=c2;have i0:=aB (qG h v xa p.X.length E c (r - p.key.length - p.U.length) w3 K3.out l3 (by omega));clear a7
       go_wp2_with fail
       refine i0.out.mono ?_;rintro e w4 ⟨rfl,f0,g4⟩;have K4:=aB f0;have M4:=aB (M3.out.row g4 S G);clear f0 g4 q0 Z q2 Y q4 q5 q6 q7;obtain ⟨q0,Z,q2,Y,q4,q5,q6,q7⟩:=M4.out.n
       by_cases d8:(p.X.length:Int)<=r - p.key.length - p.U.length
       .rw [decide_eq_true d8]
        have b3:Hid (dV bH dG p (c,r)=if p.k=3/\dG p.X=false then none else (mW bH p.L (c,r - p.key.length - p.U.length - p.X.length)).bind fun s'=>mW bH p.tail s'):=by
         unfold Hid;rw [O.out,if_neg (by omega)]
        have c0:0<=r - p.key.length - p.U.length - p.X.length/\r - p.key.length - p.U.length - p.X.length<=1048576:=(by omega);clear O
        by_cases h3:p.k=3
        .have j7:(p.k != 3)=false:=(by simpa using h3);have j8:=aB (yE (.slice xa p.X.length E) p.X w4 (M4.out.t.wideC M4.out.x.s) SX.out HO.out.x.2 l3 M4.out.x.T)
         go_wp2_with fail
         refine j8.out.mono ?_;rintro e w5 ⟨rfl,g5⟩;have K5:=aB (K4.out.K g5);have M5:=aB (M4.out.row (eJ g5 _) S G);clear g5 q0 Z q2 Y q4 q5 q6 q7;obtain ⟨q0,Z,q2,Y,q4,q5,q6,q7⟩:=M5.out.n;cases c8:dG p.X with
         | false=>
           have M:Hid (dV bH dG p (c,r)=none):=(by unfold Hid;rw [b3.out,if_pos ⟨h3,c8⟩]);go_wp2;go_ret;exact ⟨false,_,_,rfl,K5.out,M.out,M5.out.g⟩
         | true=>
           have N:Hid (dV bH dG p (c,r)=(mW bH p.L (c,r - p.key.length - p.U.length - p.X.length)).bind fun s'=>mW bH p.tail s'):=by
            unfold Hid;rw [b3.out,if_neg (fun H=>by rw [c8] at H;cases H.2)]
           clear c8 b3;have d0:=aB (fQ h v (.slice la p.L.length F) p.L c (r - p.key.length - p.U.length - p.X.length) m B w5 K5.out M5.out.x M5.out.l S HO.out.l.1 HO.out.l.2 c0 hc)
           go_wp2_with fail
           refine d0.out.mono ?_;rintro e w6 ⟨b6,c6,r6,rfl,a8,A,g6⟩;have K6:=aB a8;have M6:=aB (M5.out.row g6 S G);clear a8 g6 q0 Z q2 Y q4 q5 q6 q7;obtain ⟨q0,Z,q2,Y,q4,q5,q6,q7⟩:=M6.out.n;cases b6 with
           | false=>
             have M:Hid (dV bH dG p (c,r)=none):=(by unfold Hid;rw [N.out,A];rfl);clear A;go_wp2;go_ret;exact ⟨false,_,_,rfl,K6.out,M.out,M6.out.g⟩
           | true=>
             simp only [if_true] at A;have c5:Hid (dV bH dG p (c,r)=mW bH p.tail (c6,r6)):=by unfold Hid;rw [N.out,A];rfl
             have a9:(0<=r6/\r6<=1048576)/\(-1048576<=c6/\c6<=1048576):=by
              rw [mT bH p.L c _ c0.1] at A
              by_cases H:(p.L.length:Int)<=c/\p.L.all bH=true/\bY p.L<=r - p.key.length - p.U.length - p.X.length
              .rw [if_pos H] at A;have j2:=bN p.L;simp only [Option.some.injEq,Prod.mk.injEq] at A;omega
              .rw [if_neg H] at A;cases A
             have d1:=aB (fQ h v (.slice ta p.tail.length D) p.tail c6 r6 m B w6 K6.out M6.out.x M6.out.e S HO.out.t.1 HO.out.t.2 a9.1 a9.2);clear A N
             go_wp2_with fail
             refine d1.out.mono ?_;rintro e w7 ⟨b7,c7,r7,rfl,a6,b2,g7⟩;have M:Hid (dV bH dG p (c,r)=(if b7 then some (c7,r7) else none)):=(by unfold Hid;rw [c5.out,b2]);have K7:=aB a6;have M7:=aB (M6.out.row g7 S G);clear a6 g7 b2;go_wp2;go_ret;exact ⟨b7,_,_,rfl,K7.out,M.out,M7.out.g⟩
        .have j7:(p.k != 3)=true:=by simpa using h3
         have N:Hid (dV bH dG p (c,r)=(mW bH p.L (c,r - p.key.length - p.U.length - p.X.length)).bind fun s'=>mW bH p.tail s'):=by
          unfold Hid;rw [b3.out,if_neg (fun H=>h3 H.1)]
         clear b3;have d0:=aB (fQ h v (.slice la p.L.length F) p.L c (r - p.key.length - p.U.length - p.X.length) m B w4 K4.out M4.out.x M4.out.l S HO.out.l.1 HO.out.l.2 c0 hc)
         go_wp2_with fail
         refine d0.out.mono ?_;rintro e w6 ⟨b6,c6,r6,rfl,a8,A,g6⟩;have K6:=aB a8;have M6:=aB (M4.out.row g6 S G);clear a8 g6 q0 Z q2 Y q4 q5 q6 q7;obtain ⟨q0,Z,q2,Y,q4,q5,q6,q7⟩:=M6.out.n;cases b6 with
         | false=>
           have M:Hid (dV bH dG p (c,r)=none):=(by unfold Hid;rw [N.out,A];rfl);clear A;go_wp2;go_ret;exact ⟨false,_,_,rfl,K6.out,M.out,M6.out.g⟩
         | true=>
           simp only [if_true] at A;have c5:Hid (dV bH dG p (c,r)=mW bH p.tail (c6,r6)):=by unfold Hid;rw [N.out,A];rfl
           have a9:(0<=r6/\r6<=1048576)/\(-1048576<=c6/\c6<=1048576):=by
            rw [mT bH p.L c _ c0.1] at A
            by_cases H:(p.L.length:Int)<=c/\p.L.all bH=true/\bY p.L<=r - p.key.length - p.U.length - p.X.length
            .rw [if_pos H] at A;have j2:=bN p.L;simp only [Option.some.injEq,Prod.mk.injEq] at A;omega
            .rw [if_neg H] at A;cases A
           have d1:=aB (fQ h v (.slice ta p.tail.length D) p.tail c6 r6 m B w6 K6.out M6.out.x M6.out.e S HO.out.t.1 HO.out.t.2 a9.1 a9.2);clear A N
           go_wp2_with fail
           refine d1.out.mono ?_;rintro e w7 ⟨b7,c7,r7,rfl,a6,b2,g7⟩;have M:Hid (dV bH dG p (c,r)=(if b7 then some (c7,r7) else none)):=(by unfold Hid;rw [c5.out,b2]);have K7:=aB a6;have M7:=aB (M6.out.row g7 S G);clear a6 g7 b2;go_wp2;go_ret;exact ⟨b7,_,_,rfl,K7.out,M.out,M7.out.g⟩
       .rw [decide_eq_false d8];have M:Hid (dV bH dG p (c,r)=none):=(by unfold Hid;rw [O.out,if_pos (by omega)]);go_wp2;go_ret;exact ⟨false,_,_,rfl,K4.out,M.out,M4.out.g⟩
end Go.Proofs.YtckcaefnokeodaaGreatDoor
