import Derived.Test.YtckcaefnokeodaaGreatDoorMAF
set_option maxHeartbeats 16000000
set_option maxRecDepth 100000
namespace Go.Proofs.YtckcaefnokeodaaGreatDoor
open Go.Proofs.Tryz Go.RowKit List World
structure aKp (cf:Nat) (P:Int->Bool):Prop where
 call:∀ (p:Int) (W:World),Calls prog cf #[.int .i32 p] W fun e w'=>e=.returned (.bool (P p))/\W=w'
 enter:∀ (args:Array Value) (W:World),(callFunc cf args).run prog W=.ok (.enter cf args) W
theorem Tab.row {w D} {sb:Nat} (h:Tab w) (E:0<sb) (A:w.grownBy D (some sb)):Tab D:=
 have e:some 0≠some sb:=by simp;omega
 ⟨A.cell h.c0 e,A.cell h.c1 e,A.cell h.c2 e,A.cell h.c3 e,A.cell h.c4 e⟩
def atOf (sb:Nat) (w:World):Nat:=match w.cell? ⟨sb,1,none⟩ with
 | some v=>(intOf v).toNat
 | none=>0
theorem Sc.atOf {sb w A n} (h:Sc sb w A n):atOf sb w=n:=by
 unfold Go.Proofs.YtckcaefnokeodaaGreatDoor.atOf;rw [h.c1];simp [intOf]
theorem aKd (cf) (P:Int->Bool) (hP:aKp cf P) (sb:Nat) (n M A w) (b9:0<sb) (I:Tab w) (h:Sc sb w M n) (H:Tx sb w M A) (hn:n<=A.length) :
  Calls prog 163 #[.pointer (some ⟨sb,0,none⟩),.func (.func cf) #[] #[]] w fun e Y=>e=.returned (.bool (decide (n<skN P A (A.length+1) n)))/\Sc sb Y M (skN P A (A.length+1) n)/\skN P A (A.length+1) n<=A.length/\w.grownBy Y (some sb):=by
 have d0:=H.len;have h1:=h.c1;have HC:=aB hP.call;have d2:=hP.enter;have b5:=aB (aEv sb n M A w I h H hn);have HS:=aB h;have b6:=aB H;have HT:=aB I;clear h H hP I
 go_enter func163,ntmps163
 go_wp2_with (go_at_call 182;refine b5.out.mono ?_;rintro e w1 ⟨rfl,g1⟩)
 go_loopw [6] (fun p wr=>∃ (k f:Nat),n<=k/\k<=A.length/\p=.int .i32 (nxP A k)/\Sc sb wr M k/\Tx sb wr M A/\Tab wr/\w.grownBy wr (some sb)/\A.length - k<f/\skN P A f k=skN P A (A.length+1) n)
  (fun _ wr=>A.length - atOf sb wr)
 case atStart=>exact ⟨n,A.length+1,Nat.le_refl _,hn,rfl,HS.out.K g1,b6.out.K g1,HT.out.K g1,gY g1,by omega,rfl⟩
 case round=>
  obtain ⟨k,f,d1,hk,rfl,Z,H,I,hg,hf,E⟩:=hrel;have c1:=Z.c1;have c3:=aB Z.atOf;obtain ⟨f',rfl⟩:∃ f',f=f'+1:=⟨f - 1,by omega⟩
  by_cases D:nxP A k≠-1/\P (nxP A k)=true
  .have a0:=aLB D.1;have S:=aMz A k hk;have G:=aB ((aIt (f:=f') D.1 D.2).symm.trans E);have e1:(nxP A k != -1)=true:=(by simpa using D.1);have HN:=aB (aEw sb k M A wr I Z H hk);have a4:=aB (fun W h=>aEv sb (k+nxS A k) M A W h);have HQ:=aB D.2;have J:=HC.out (nxP A k) wr;rw [D.2] at J;have b7:=aB I;have a2:=aB H;have HG:=aB hg;clear Z H I hg E D h1;generalize nxP A k=p at e1 J HN;generalize nxS A k=m at HN G a4 a0 S
   go_wp2_with fail
   refine J.mono ?_;rintro e w2 ⟨rfl,rfl⟩;clear J
   go_wp2_with fail
   refine HN.out.mono ?_;rintro e w2 ⟨rfl,O,g2⟩;have a1:=a2.out.beside (Nat.le_refl _) g2;have a3:=b7.out.row b9 g2
   go_wp2_with fail
   refine (a4.out _ a3 O a1 S).mono ?_;rintro e w3 ⟨rfl,g3⟩;go_wp2
   go_roundw
   case rel=>exact ⟨k+m,f',by omega,S,rfl,O.K g3,a1.K g3,a3.K g3,aA (aA HG.out g2) (gY g3),by omega,G.out⟩
   case measure=>rw [(O.K g3).atOf,c3.out];omega
  .have G:Hid (skN P A (A.length+1) n=k):=by
    rw [Hid,<- E,skN,if_neg D]
   have b8:=aB Z;have HG:=aB hg
   have F:∀ Y,wr.grownBy Y none->Sc sb Y M (skN P A (A.length+1) n)/\skN P A (A.length+1) n<=A.length/\w.grownBy Y (some sb):=fun Y g=>by
    rw [G.out];exact ⟨b8.out.K g,hk,aA HG.out (gY g)⟩
   have N:=aB F;have HD:Hid (decide (n<skN P A (A.length+1) n)=decide (n<k)):=by rw [Hid,G.out]
   by_cases hm:nxP A k = -1
   .have e1:(nxP A k != -1)=false:=(by rw [hm];rfl);clear Z H I hg E D h1 F hm;generalize nxP A k=p at e1;go_wp2;go_ret;exact ⟨by rw [HD.out];rfl,N.out _ (grownBy.refl _ _)⟩
   .have e1:(nxP A k != -1)=true:=(by simpa using hm);have J:=HC.out (nxP A k) wr
    have a8:P (nxP A k)=false:=by
     cases hh:P (nxP A k)
     .rfl
     .exact absurd ⟨hm,hh⟩ D
    rw [a8] at J;clear Z H I hg E D h1 F hm a8;generalize nxP A k=p at e1 J
    go_wp2_with fail
    refine J.mono ?_;rintro e w2 ⟨rfl,rfl⟩;clear J;go_wp2;go_ret;exact ⟨by rw [HD.out];rfl,N.out _ (grownBy.refl _ _)⟩
theorem aCS (w:World) (h) (D:Bys h) (c) :
  RdB (w.alloc (.cells (bytesRow (strOfNums h) c) 5 ((bytesRow (strOfNums h) c).size,(bytesRow (strOfNums h) c).size+1))).heap.size (w.alloc (.cells (bytesRow (strOfNums h) c) 5 ((bytesRow (strOfNums h) c).size,(bytesRow (strOfNums h) c).size+1))) (.slice (some ⟨w.heap.size,0,none⟩) h.length c) h:=by
 refine ⟨_,c,rfl,fun _=>⟨w.heap.size,0,rfl,by simp,fun j A=>?_⟩⟩;have:=cell?_alloc_mark w (bytesRow (strOfNums h) c) 5 ((bytesRow (strOfNums h) c).size,(bytesRow (strOfNums h) c).size+1) j;rw [Nat.zero_add,this];have E:=D _ (getElem_mem A);unfold bytesRow;rw [Array.getElem?_append_left (by simp [strOfNums,A])];simp [strOfNums,A];omega
theorem Rd.heap {q B w} {w':World} {v E} (h:Rd q B w v E) (e:w'.heap=w.heap):Rd q B w' v E:=by
 obtain ⟨a,A,G,M⟩:=h;refine ⟨a,A,G,fun J=>?_⟩;obtain ⟨b,D,I,N,F⟩:=M J;exact ⟨b,D,I,N,fun j H=>by rw [<- F j H];unfold cell?;rw [e]⟩
theorem Tx.from_ {B w} {a:Option Addr} {A:Nat} {D:List Int} (h:Tx B w (.slice a D.length A) D) (n:Nat) (hn:n<=D.length) :
  RdB B w (.slice (if A=n then a else Option.map (fun x=>x.add n) a) (D.length - n) (A - n)) (D.drop n)/\Sl (.slice (if A=n then a else Option.map (fun x=>x.add n) a) (D.length - n) (A - n)) (D.drop n).length/\Bys (D.drop n):=by
 obtain ⟨Z,E,hv,O⟩:=h.rd;obtain ⟨N,F,G,M,a0⟩:=h.sl;have Y:a=Z/\A=E:=(by simpa using hv);have e2:a=N/\A=F:=(by simpa using G);obtain ⟨rfl,rfl⟩:=Y;obtain ⟨_,rfl⟩:=e2;refine ⟨⟨_,A - n,by rw [length_drop],fun h0=>?_⟩,⟨_,A - n,by rw [length_drop],by rw [length_drop];omega,by omega⟩,fun z S=>h.by_ z (mem_of_mem_drop S)⟩
 have H:n<D.length:=by
  apply Classical.byContradiction;intro J;exact h0 (drop_of_length_le (by omega))
 obtain ⟨b,I,rfl,hb,J⟩:=O (fun e=>by simp [e] at H);rw [if_neg (by omega)];refine ⟨b,I+n,by simp [Addr.add],hb,fun j hj=>?_⟩;rw [length_drop] at hj;rw [Nat.add_assoc,J (n+j) (by omega),qM]
theorem Sc.drew {sb w A n} (h:Sc sb w A n):Sc sb w.drew A n:=⟨h.c0,h.c1,h.fz⟩
theorem aAi (A) (Z:Bys A) (c8:A.length<=100) (sb n tv E w) (h:Sc sb w tv n) (ht:Tx sb w tv E) (hn:n<=E.length) :
  Calls prog 162 #[.pointer (some ⟨sb,0,none⟩),.string (strOfNums A)] w fun e Y=>e=.returned (.bool (decide (A <+: E.drop n)))/\Sc sb Y tv (if A <+: E.drop n then n+A.length else n)/\w.grownBy Y (some sb):=by
 have c3:∀ (x:Bool) (w:World),(Op.unary .not (.bool x)).run prog w=.ok (.bool (!x)) w:=fun _ _=>rfl;have h0:=h.c0;have h1:=h.c1;have D:=h.lt;have c9:(strOfNums A).size=A.length:=strOfNums_size A;have c4:=ht.len;have J:∀ W:World,_:=fun W=>run_bytes_of_string (P:=prog) W 9 22 5 (strOfNums A) underlying9 underlying22 underlying5;simp only [strOfNums_size] at J;obtain ⟨a,G,rfl,_⟩:=ht.rd;obtain ⟨a',a0,I,c2,b4⟩:=ht.sl;have b6:G=a0:=(by simp at I;exact I.2);subst b6;unfold maxLen at b4;have hF:=ht.from_ n hn;have hg:=grownBy_alloc w (.cells (bytesRow (strOfNums A) (grownCap w.drew A.length 0 5)) 5 ((bytesRow (strOfNums A) (grownCap w.drew A.length 0 5)).size,(bytesRow (strOfNums A) (grownCap w.drew A.length 0 5)).size+1)) none;have b3:sb<=(w.alloc (.cells (bytesRow (strOfNums A) (grownCap w.drew A.length 0 5)) 5 ((bytesRow (strOfNums A) (grownCap w.drew A.length 0 5)).size,(bytesRow (strOfNums A) (grownCap w.drew A.length 0 5)).size+1))).heap.size:=by simp;omega
 have HH:=aB (fun v1 (r1:RdB _ _ v1 _) s1=>aBK v1 _ (E.drop n) A (w.alloc (.cells (bytesRow (strOfNums A) (grownCap w.drew A.length 0 5)) 5 ((bytesRow (strOfNums A) (grownCap w.drew A.length 0 5)).size,(bytesRow (strOfNums A) (grownCap w.drew A.length 0 5)).size+1))).drew.drew
  r1 s1 ((aCS w A Z _).heap rfl) hF.2.2 Z (by rw [length_drop];omega) (by omega) |>.mono fun e Y (hx:_/\_)=>(⟨hx.1,hx.2 ▸ (h.K hg).drew.drew,hx.2 ▸ oM (oM hg)⟩:_/\Sc sb Y (.slice a E.length G) n/\w.grownBy Y none))
 have HR:=aB ((hF.1.K hg).now.heap (w':=(w.alloc (.cells (bytesRow (strOfNums A) (grownCap w.drew A.length 0 5)) 5 ((bytesRow (strOfNums A) (grownCap w.drew A.length 0 5)).size,(bytesRow (strOfNums A) (grownCap w.drew A.length 0 5)).size+1))).drew.drew) rfl);have S:=aB hF.2.1;clear h ht I hF hg b3;obtain ⟨m,hm⟩:∃ m:Nat,m=if A <+: E.drop n then n+A.length else n:=⟨_,rfl⟩
 rw [<- hm];have N:m=if decide (A <+: E.drop n)=true then n+A.length else n:=(by rw [hm];simp);generalize decide (A <+: E.drop n)=ok at HH N ⊢;have HM:=aB N;clear hm N
 by_cases b2:G=n
 .have hz:E.length=n:=by omega
  have HZ:Hid (∀ (a:Option Addr) (l c:Nat),l=0/\c=0->RdB (w.alloc (.cells (bytesRow (strOfNums A) (grownCap w.drew A.length 0 5)) 5 ((bytesRow (strOfNums A) (grownCap w.drew A.length 0 5)).size,(bytesRow (strOfNums A) (grownCap w.drew A.length 0 5)).size+1))).drew.drew.heap.size (w.alloc (.cells (bytesRow (strOfNums A) (grownCap w.drew A.length 0 5)) 5 ((bytesRow (strOfNums A) (grownCap w.drew A.length 0 5)).size,(bytesRow (strOfNums A) (grownCap w.drew A.length 0 5)).size+1))).drew.drew (.slice a l c) (E.drop n)/\Sl (.slice a l c) (E.drop n).length):=by
   rintro a l c ⟨rfl,rfl⟩;rw [drop_of_length_le (by omega)];exact ⟨⟨a,0,rfl,fun h=>absurd rfl h⟩,⟨a,0,rfl,Nat.le_refl _,by unfold maxLen;omega⟩⟩
  clear hz;cases ok
  .go_enter func162,ntmps162
   go_wp2_with fail
   have q0:∀ o,((w.drew).drew.alloc o).cell? ⟨sb,0,none⟩=some (.slice a E.length G):=fun o=>(cell?_alloc_past _ _ _ D).trans h0;have q1:∀ o,((w.drew).drew.alloc o).cell? ⟨sb,1,none⟩=some (.int .i64 n):=fun o=>(cell?_alloc_past _ _ _ D).trans h1
   go_region_with (go_at_call 181;refine (HH.out _ (HZ.out _ _ _ (by omega)).1 (HZ.out _ _ _ (by omega)).2).mono ?_;rintro e w1 ⟨rfl,F,H⟩)
   all_goals
    have O:=F.c1;have M:=F.fz;go_wp2;go_ret;exact ⟨rfl,by rw [HM.out];exact F,gY H⟩
  .go_enter func162,ntmps162
   go_wp2_with fail
   have q0:∀ o,((w.drew).drew.alloc o).cell? ⟨sb,0,none⟩=some (.slice a E.length G):=fun o=>(cell?_alloc_past _ _ _ D).trans h0;have q1:∀ o,((w.drew).drew.alloc o).cell? ⟨sb,1,none⟩=some (.int .i64 n):=fun o=>(cell?_alloc_past _ _ _ D).trans h1
   go_region_with (go_at_call 181;refine (HH.out _ (HZ.out _ _ _ (by omega)).1 (HZ.out _ _ _ (by omega)).2).mono ?_;rintro e w1 ⟨rfl,F,H⟩)
   all_goals
    have O:=F.c1;have M:=F.fz;go_wp2;go_ret;exact ⟨rfl,by rw [HM.out];exact F.put _ _ (by go_num),aA (gY H) (uT _ _ _ _)⟩
 .rw [if_neg b2] at HR S;cases ok
  .go_enter func162,ntmps162
   go_wp2_with fail
   have q0:∀ o,((w.drew).drew.alloc o).cell? ⟨sb,0,none⟩=some (.slice a E.length G):=fun o=>(cell?_alloc_past _ _ _ D).trans h0;have q1:∀ o,((w.drew).drew.alloc o).cell? ⟨sb,1,none⟩=some (.int .i64 n):=fun o=>(cell?_alloc_past _ _ _ D).trans h1
   go_region_with (go_at_call 181;refine (HH.out _ HR.out S.out).mono ?_;rintro e w1 ⟨rfl,F,H⟩)
   all_goals
    have O:=F.c1;have M:=F.fz;go_wp2;go_ret;exact ⟨rfl,by rw [HM.out];exact F,gY H⟩
  .go_enter func162,ntmps162
   go_wp2_with fail
   have q0:∀ o,((w.drew).drew.alloc o).cell? ⟨sb,0,none⟩=some (.slice a E.length G):=fun o=>(cell?_alloc_past _ _ _ D).trans h0;have q1:∀ o,((w.drew).drew.alloc o).cell? ⟨sb,1,none⟩=some (.int .i64 n):=fun o=>(cell?_alloc_past _ _ _ D).trans h1
   go_region_with (go_at_call 181;refine (HH.out _ HR.out S.out).mono ?_;rintro e w1 ⟨rfl,F,H⟩)
   all_goals
    have O:=F.c1;have M:=F.fz;go_wp2;go_ret;exact ⟨rfl,by rw [HM.out];exact F.put _ _ (by go_num),aA (gY H) (uT _ _ _ _)⟩
theorem fY (p:Int) (w):Calls prog 177 #[.int .i32 p] w fun e D=>e=.returned (.bool (aK p))/\w=D:=by
 by_cases A:48<=p
 .by_cases E:p<=57
  .have h:Hid (aK p=true):=by simp [Hid,aK,A,E]
   go_enter func177,ntmps177
   go_wp2;go_ret;exact ⟨by rw [h.out];rfl,rfl⟩
  .have h:Hid (aK p=false):=by simp [Hid,aK];omega
   go_enter func177,ntmps177
   go_wp2;go_ret;exact ⟨by rw [h.out];rfl,rfl⟩
 .have h:Hid (aK p=false):=by simp [Hid,aK];omega
  go_enter func177,ntmps177
  go_wp2;go_ret;exact ⟨by rw [h.out];rfl,rfl⟩
def St (sb:Nat) (w0 w:World) (s:List Int):Prop:=∃ tv zs n,n<=zs.length/\zs.drop n=s/\Sc sb w tv n/\Tx sb w tv zs/\Tab w/\0<sb/\w0.grownBy w (some sb)
section
variable {sb:Nat} {w0 w:World}
theorem fD (A r:List Int) (G:Bys A) (F:A.length<=100) (h:St sb w0 w (A++r)) :
  Calls prog 162 #[.pointer (some ⟨sb,0,none⟩),.string (strOfNums A)] w fun e M=>e=.returned (.bool true)/\St sb w0 M r:=by
 obtain ⟨H,D,n,S,I,hS,J,Z,N,O⟩:=h;refine (aAi A G F sb n H D w hS J S).mono ?_;rintro e M ⟨rfl,k,g⟩;have E:A <+: D.drop n:=(by rw [I];exact prefix_append _ _);rw [if_pos E] at k;have Y:A.length<=D.length - n:=(by have:=E.length_le;rwa [length_drop] at this);refine ⟨by rw [decide_eq_true E],H,D,n+A.length,by omega,?_,k,J.beside (Nat.le_refl _) g,Z.row N g,N,aA O g⟩;rw [<- drop_drop,I,drop_left]
theorem gV (A s:List Int) (E:Bys A) (D:A.length<=100) (G:¬ A <+: s) (h:St sb w0 w s) :
  Calls prog 162 #[.pointer (some ⟨sb,0,none⟩),.string (strOfNums A)] w fun e M=>e=.returned (.bool false)/\St sb w0 M s:=by
 obtain ⟨I,O,n,H,F,Z,J,Y,N,S⟩:=h;refine (aAi A E D sb n I O w Z J H).mono ?_;rintro e M ⟨rfl,k,g⟩;rw [F,if_neg G] at k;exact ⟨by rw [F,decide_eq_false G],I,O,n,H,F,k,J.beside (Nat.le_refl _) g,Y.row N g,N,aA S g⟩
def eB (P:Int->Bool):List Int->Bool
 | []=>false
 | c::_=>P c
theorem uH (s:List Int):eB aK s=iD s:=by cases s<;>rfl
theorem aAY (s:List Int):eB eQ s=zX s:=by cases s<;>rfl
theorem aGC (E:Nat) (P:Int->Bool) (Z:aKp E P) (hA:Asc P) (s:List Int) (h:St sb w0 w s) :
  Calls prog 163 #[.pointer (some ⟨sb,0,none⟩),.func (.func E) #[] #[]] w fun e O=>e=.returned (.bool (eB P s))/\St sb w0 O (s.dropWhile P):=by
 obtain ⟨N,A,n,M,F,hS,G,S,H,Y⟩:=h;refine (aKd E P Z sb n N A w H S hS G M).mono ?_;rintro e O ⟨rfl,k,D,g⟩;have J:=aIB hA G.by_ (A.length+1) n M (by omega);refine ⟨?_,N,A,_,D,by rw [J.1,F],k,G.beside (Nat.le_refl _) g,S.row H g,H,aA Y g⟩;congr 2;rw [Bool.eq_iff_iff,decide_eq_true_eq,J.2.2.2]
 by_cases I:n<A.length
 .rw [<- F,drop_eq_getElem_cons I];simp [I,eB]
 .rw [<- F,drop_of_length_le (by omega)];simp [I,eB]
theorem aJU (s:List Int) (h:St sb w0 w s) :
  Calls prog 151 #[.pointer (some ⟨sb,0,none⟩)] w fun e F=>e=.returned (.bool (decide (s=[])))/\St sb w0 F s:=by
 obtain ⟨A,H,n,J,D,G,E,N,M,I⟩:=h;refine (aCD sb n A H w G E).mono ?_;rintro e F ⟨rfl,g⟩;refine ⟨?_,A,H,n,J,D,G.K g,E.K g,N.K g,M,aA I (gY g)⟩;congr 2;rw [Bool.eq_iff_iff,decide_eq_true_eq,beq_iff_eq,<- D,drop_eq_nil_iff];omega
end
theorem aFU:aKp 177 aK:=⟨fun p W=>fY p W,fun args W=>by kernel_rfl⟩
theorem aKz:Asc aK:=fun p h=>by simp [aK] at h;omega
def aCd (wb:Bool) (s:List Int):Bool × List Int:=match s with
 | []=>(wb,[])
 | c::r=>if c=46 then (wb||iD r,r.dropWhile aK) else (wb,c::r)
theorem oJ {c:Int} {s:List Int} (h:∀ r,s≠c::r):¬ [c] <+: s:=by
 rintro ⟨t,A⟩;exact h t A.symm
theorem aLX (s:List Int):(∃ r,s=[48]++r/\dK s=aCd true r)\/(∃ A,¬ [48] <+: s/\s.dropWhile aK=A/\dK s=aCd (eB aK s) A):=by
 cases s with
 | nil=>exact .inr ⟨[],by simp,rfl,rfl⟩
 | cons c r=>
   by_cases h:c=48
   .subst h;left;exact ⟨r,rfl,by simp only [dK];rfl⟩
   .right;refine ⟨_,oJ (fun t e=>h (by simp at e;exact e.1)),rfl,?_⟩;simp only [dK,if_neg h];rfl
theorem aKm (h:Bool) (s:List Int):(∃ r D,s=[46]++r/\r.dropWhile aK=D/\aCd h s=(h||eB aK r,D))\/(¬ [46] <+: s/\aCd h s=(h,s)):=by
 cases s with
 | nil=>exact .inr ⟨by simp,rfl⟩
 | cons c r=>
   by_cases A:c=46
   .subst A;exact .inl ⟨r,_,rfl,rfl,by simp only [aCd,if_pos,uH]⟩
   .exact .inr ⟨oJ (fun t e=>A (by simp at e;exact e.1)),by simp only [aCd,if_neg A]⟩
theorem tS (r:List Int):(∃ t,r=[43]++t/\eG r=t)\/(∃ t,r=[45]++t/\¬ [43] <+: r/\eG r=t)\/(¬ [43] <+: r/\¬ [45] <+: r/\eG r=r):=by
 cases r with
 | nil=>exact .inr (.inr ⟨by simp,by simp,rfl⟩)
 | cons c r=>
   by_cases A:c=43
   .subst A;exact .inl ⟨r,rfl,by simp [eG,aA2]⟩
   .by_cases h:c=45
    .subst h;exact .inr (.inl ⟨r,rfl,oJ (fun t e=>by simp at e),by simp [eG,aA2]⟩)
    .exact .inr (.inr ⟨oJ (fun t e=>A (by simp at e;exact e.1)),oJ (fun t e=>h (by simp at e;exact e.1)),by simp [eG,aA2,A,h]⟩)
theorem aIx (s:List Int):(∃ r,s=[101]++r/\jC (true,s)=(eB aK (eG r),(eG r).dropWhile aK))\/(∃ r,s=[69]++r/\¬ [101] <+: s/\jC (true,s)=(eB aK (eG r),(eG r).dropWhile aK))\/(¬ [101] <+: s/\¬ [69] <+: s/\jC (true,s)=(true,s)):=by
 cases s with
 | nil=>exact .inr (.inr ⟨by simp,by simp,rfl⟩)
 | cons c r=>
   by_cases A:c=101
   .subst A;exact .inl ⟨r,rfl,by simp [jC,isE,uH]⟩
   .by_cases h:c=69
    .subst h;exact .inr (.inl ⟨r,rfl,oJ (fun t e=>by simp at e),by simp [jC,isE,uH]⟩)
    .exact .inr (.inr ⟨oJ (fun t e=>A (by simp at e;exact e.1)),oJ (fun t e=>h (by simp at e;exact e.1)),by simp [jC,isE,A,h]⟩)
end Go.Proofs.YtckcaefnokeodaaGreatDoor
