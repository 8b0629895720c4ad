import Derived.Test.YtckcaefnokeodaaGreatDoorProg
import Derived.WalkKit
import Derived.WalkSpells
import Derived.WalkLawsBesides
import Derived.Deep.QuietTactic
import Derived.BigQuiet
set_option maxHeartbeats 16000000
set_option maxRecDepth 100000
namespace Go.Proofs.YtckcaefnokeodaaGreatDoor
open Go.Proofs.Tryz Go.RowKit List World
theorem mA:(prog.info? 5).map (fun i=>(i.zero,i.size,i.bytes))=some (some (.int .u8 0),1,1):=by kernel_rfl
theorem aAp:(prog.info? 3).map (fun i=>(i.zero,i.size,i.bytes))=some (some (.int .i64 0),1,8):=by kernel_rfl
def Rd (q:IntKind) (B:Nat) (w:World) (v:Value) (zs:List Int):Prop:=
 ∃ a cap,v=.slice a zs.length cap/\(zs≠[]->∃ b off,a=some ⟨b,off,none⟩/\b<B/\∀ j,j<zs.length->w.cell? ⟨b,off+j,none⟩=some (.int q (zs[j]?.getD 0)))
abbrev RdI (B:Nat) (w:World) (v:Value) (zs:List Int):Prop:=Rd .i64 B w v zs
abbrev RdB (B:Nat) (w:World) (v:Value) (zs:List Int):Prop:=Rd .u8 B w v zs
def Ow (q:IntKind) (t:TypeId) (B:Nat) (w:World) (v:Value) (zs:List Int):Prop:=w.ownsRow B t 1 v zs.length (zs.map (Value.int q))
abbrev OwI (B:Nat) (w:World) (v:Value) (zs:List Int):Prop:=Ow .i64 3 B w v zs
abbrev OwB (B:Nat) (w:World) (v:Value) (zs:List Int):Prop:=Ow .u8 5 B w v zs
theorem Ow.rd {q t B w v G} (h:Ow q t B w v G):Rd q w.heap.size w v G:=by
 rcases h.2 with ⟨A,F⟩ | ⟨g,D,H,A,Y,I,N,J,M,S⟩
 .subst A;refine ⟨_,0,by rw [F],fun O=>absurd (eq_nil_of_length_eq_zero F) O⟩
 .subst A;refine ⟨_,D,rfl,fun _=>⟨g,0,rfl,(Array.getElem?_eq_some_iff.1 I).1,fun j E=>?_⟩⟩;have:=ownsRow.cellAt h j (by simpa using E);simp only [Nat.zero_add];rw [this];simp [E]
theorem Rd.later {q B w F v J} (h:Rd q B w v J) (H:w.grownBy F none):Rd q F.heap.size F v J:=by
 obtain ⟨a,D,M,Y⟩:=h;refine ⟨a,D,M,fun I=>?_⟩;obtain ⟨b,E,O,Z,G⟩:=Y I;have S:=G 0 (length_pos_iff.2 I);have A:b<w.heap.size:=block_lt_of_cell? w _ S;exact ⟨b,E,O,Nat.lt_of_lt_of_le A H.size,fun j N=>H.cell (G j N) (by simp)⟩
theorem Rd.beside {q B w G v H A} (h:Rd q B w v H) (J:w.grownBy G A) (Y:∀ k,A=some k->B<=k):Rd q B G v H:=by
 obtain ⟨a,E,M,D⟩:=h;refine ⟨a,E,M,fun S=>?_⟩;obtain ⟨b,F,O,Z,I⟩:=D S;exact ⟨b,F,O,Z,fun j N=>J.cell (I j N) (fun e=>by have:=Y b e.symm;omega)⟩
theorem Ow.later {q t B w A v D} (h:Ow q t B w v D) (E:w.grownBy A none):Ow q t B A v D:=
 ownsRow.kept h E (by cases F:v.ownBlock<;>simp)
theorem gWA {w:World} {o r} : w.grownBy (w.alloc o) r:=grownBy_alloc w o r
theorem aA {a:World} {b c r} (h:a.grownBy b r) (k:b.grownBy c r):a.grownBy c r:=
 ⟨k.os.trans h.os,k.tape.trans h.tape,k.output.trans h.output,Nat.le_trans h.size k.size,fun i A D=>(k.block i (Nat.lt_of_lt_of_le A h.size) D).trans (h.block i A D)⟩
theorem bC {a:World} {b c r} (h:a.grownBy b none) (k:b.grownBy c r) (D:∀ j,r=some j->a.heap.size<=j):a.grownBy c none:=
 ⟨k.os.trans h.os,k.tape.trans h.tape,k.output.trans h.output,Nat.le_trans h.size k.size,fun i A _=>(k.block i (Nat.lt_of_lt_of_le A h.size) (fun e=>by have:=D i e.symm;omega)).trans (h.block i A (by simp))⟩
theorem cA {a:World} {b r} (h:a.grownBy b r) (n):a.grownBy (b.drewN n) r:=⟨h.os,h.tape,h.output,h.size,h.block⟩
theorem aV {w:World} {A} (h:w.grownBy A none):Below w.heap.size w A:=⟨h.os,h.tape,h.output,h.size,fun k D=>h.block k D (by simp)⟩
theorem aC {w:World} {A} (h:Below w.heap.size w A):w.grownBy A none:=⟨h.os,h.tape,h.output,h.size,fun k D _=>h.block k D⟩
theorem dM (h:List Int) (k:Nat) (A:k<h.length):h.take (k+1)=h.take k++[h[k]?.getD 0]:=by
 rw [take_add_one,getElem?_eq_getElem A];rfl
theorem gP {w:World} {B G:Nat} {e A v k H} (h:G<=B) (I:w.ownsRow B e A v k H):w.ownsRow G e A v k H:=by
 refine ⟨I.1,?_⟩;rcases I.2 with M | ⟨g,F,E,J,N,D⟩
 .exact .inl M
 .exact .inr ⟨g,F,E,J,by omega,D⟩
theorem cG {q t} {B:Nat} {w E:World} {v F D} {xs:List Int} {o} (n) (J:B<=w.heap.size) (H:Ow q t B w v D) (A:E.ownsRow B t 1 F n (D.map (Value.int q)++xs.map (Value.int q))) (I:n=(D++xs).length) (h:(w.alloc o).grownBy E v.ownBlock) :
  Ow q t B E F (D++xs)/\Below B w E:=by
 subst I;refine ⟨by unfold Ow;simpa using A,((Below.refl B w).alloc J o).grown h (by simp;omega) (fun k G=>(ownsRow.lt H k G).1)⟩
theorem aHH {q:IntKind} (x:Addr) (E H:List Int) (A) (G:Nat) (w:World) (J:E=H.take A) (O:E.length=A) (hl:A<=H.length) (h:∀ i,i<H.length->w.cell? (x.add i)=some (.int q (H.getD i 0))):Rd q w.heap.size w (.slice (some x) E.length G) E:=by
 refine ⟨some x,G,rfl,fun S=>?_⟩;have Z:0<E.length:=length_pos_iff.2 S;obtain ⟨b,M,F⟩:=x;have N:=h 0 (by omega);have D:F=none:=(by simpa [Addr.add] using cell?_spot N);subst D;refine ⟨b,M,rfl,?_,fun j Y=>?_⟩
 .have:=block_lt_of_cell? w _ N;simpa [Addr.add] using this
 .have I:j<A:=(by omega);have:=h j (by omega);rw [Addr.add_lit] at this;rw [this,J];simp [getD,I]
theorem Rd.now {q B w v A} (h:Rd q B w v A):Rd q w.heap.size w v A:=h.later (grownBy.refl _ _)
theorem Rd.K {q B w w' v A} (h:Rd q B w v A) (D:w.grownBy w' none):Rd q B w' v A:=h.beside D (fun _ e=>by cases e)
def Sl (v:Value) (n:Nat):Prop:=∃ a cap,v=.slice a n cap/\n<=cap/\cap<=maxLen
theorem Ow.sl {q t B w v G} (h:Ow q t B w v G):Sl v G.length:=by
 rcases h.2 with ⟨A,J⟩ | ⟨g,F,H,A,O,M,E,D,I,N⟩
 .exact ⟨_,0,by rw [A,J],by omega,by unfold maxLen;omega⟩
 .exact ⟨_,F,A,E,D⟩
theorem aB {p:Prop} (h:p):Hid p:=h
def aA5 (p:Int):Bool:=decide (0<=p/\p<=1114111)
def cD (p:Int):Bool:=decide (0<=p/\p<65536)
def mL (p:Int):Bool:=decide (55296<=p/\p<56320)
def mV (p:Int):Bool:=decide (56320<=p/\p<=57343)
theorem mH (A:List Int) (f:Int->Bool) (k:Nat) (D:k<A.length) (h:(A.take k).all f=true) (E:f (A[k]?.getD 0)=true):(A.take (k+1)).all f=true:=by
 rw [dM A k D,all_append,h];simp [E]
theorem zY (h:List Int) (f:Int->Bool) (k:Nat) (A:k<h.length) (D:f (h[k]?.getD 0)=false):h.all f=false:=by
 rw [all_eq_false];exact ⟨h[k],getElem_mem A,by simpa [A] using D⟩
def cC (p:Int):Bool:=decide ((0<=p/\p<=1114111)/\¬ (55296<=p/\p<=57343))
def cP (p:Int):Int:=if cC p then (if p<128 then 1 else if p<2048 then 2 else if p<65536 then 3 else 4) else 0
def enc (p:Int):List Int:=
 if p<128 then [p] else if p<2048 then [192+p / 64,128+p%64] else if p<65536 then [224+p / 4096,128+p / 64%64,128+p%64]
 else [240+p / 262144,128+p / 4096%64,128+p / 64%64,128+p%64]
def aQ (zs:List Int):List Int:=zs.flatMap enc
def aDZ (zs:List Int):List Int × Int:=if zs.all cC then (aQ zs,0) else ([],1)
def st:Nat->Int->Int × List Int
 | 0,p=>(p,[])
 | k+1,p=>((st k p).1 / 64,(128+(st k p).1%64)::(st k p).2)
theorem aMB (k p):(st k p).2.length=k:=by
 induction k with
 | zero=>rfl
 | succ k ih=>simp [st,ih]
theorem aNc (k) (p:Int) (h:0<=p) (A:p<=1114111):0<=(st k p).1/\(st k p).1<=1114111:=by
 induction k with
 | zero=>exact ⟨h,A⟩
 | succ k ih=>simp only [st];omega
theorem aGP {p} (h:cC p=true):(0<=p/\p<=1114111)/\¬ (55296<=p/\p<=57343):=of_decide_eq_true h
theorem yQ (p:Int) (h:p<128):enc p=[p]:=by simp only [enc,if_pos h]
theorem aF0 (p:Int) (h:¬ p<128) (A:p<2048):enc p=[192+p / 64,128+p%64]:=by simp only [enc,if_neg h,if_pos A]
theorem aFi (p:Int) (h:¬ p<2048) (A:p<65536):enc p=[224+p / 4096,128+p / 64%64,128+p%64]:=by
 simp only [enc,if_neg (show ¬ p<128 by omega),if_neg h,if_pos A]
theorem aFx (p:Int) (h:¬ p<65536):enc p=[240+p / 262144,128+p / 4096%64,128+p / 64%64,128+p%64]:=by
 simp only [enc,if_neg (show ¬ p<128 by omega),if_neg (show ¬ p<2048 by omega),if_neg h]
theorem st2 (p:Int) (h:¬ p<128) (A:p<2048):(192+(st 1 p).1)::(st 1 p).2=enc p:=by rw [aF0 p h A];rfl
theorem st3 (p:Int) (h:¬ p<2048) (A:p<65536):(224+(st 2 p).1)::(st 2 p).2=enc p:=by
 rw [aFi p h A];simp only [st,List.cons.injEq,and_true];omega
theorem st4 (p:Int) (h:¬ p<65536):(240+(st 3 p).1)::(st 3 p).2=enc p:=by
 rw [aFx p h];simp only [st,List.cons.injEq,and_true];omega
theorem xF (p):1<=(enc p).length/\(enc p).length<=4:=by unfold enc;split<;>(try split)<;>(try split)<;>simp
theorem aEf (A:List Int) (h:A.all cC=false):aDZ A=([],1):=by simp [aDZ,h]
theorem pW (A:List Int) (h:A.all cC=true):aDZ A=(aQ A,0):=by simp [aDZ,h]
theorem aI3 (p):cC p=(aA5 p && !mL p && !mV p):=by
 rw [Bool.eq_iff_iff];simp [cC,aA5,mL,mV];omega
def Bys (zs:List Int):Prop:=∀ z∈zs,0<=z/\z<=255
theorem Bys.get {A} (h:Bys A) (k:Nat):0<=A[k]?.getD 0/\A[k]?.getD 0<=255:=by
 by_cases D:k<A.length
 .rw [getElem?_eq_getElem D];exact h _ (getElem_mem D)
 .rw [getElem?_eq_none (by omega)];simp
def jD:Int->List Int->Int
 | v,[]=>v
 | v,d::r=>if d / 64=2 then jD (v*64+d%64) r else -1
def jH (n:Nat) (c:Int):Int:=
 if n=1/\c<128 then c else if n=2/\c / 32=6 then c%32 else if n=3/\c / 16=14 then c%16 else if n=4/\c / 8=30 then c%8 else -1
def lv (s:List Int) (n:Nat):Int:=
 if s.length<n then -1 else if jH n (s[0]?.getD 0)<0 then -1 else jD (jH n (s[0]?.getD 0)) ((s.drop 1).take (n - 1))
def hit (s:List Int) (n:Nat):Bool:=decide (0<=lv s n)&&(cP (lv s n)==(n:Int))
def aJ (s:List Int):Nat:=if hit s 1 then 1 else if hit s 2 then 2 else if hit s 3 then 3 else if hit s 4 then 4 else 0
def pts:Nat->List Int->List Int
 | 0,_=>[]
 | f+1,s=>if s=[] then [] else if aJ s=0 then [] else lv s (aJ s)::pts f (s.drop (aJ s))
def err:Nat->List Int->Nat->Option Nat
 | 0,_,_=>none
 | f+1,s,k=>if s=[] then none else if aJ s=0 then some k else err f (s.drop (aJ s)) (k+aJ s)
def eU (bs:List Int):List Int × Int × Int:=
 match err bs.length bs 0 with
 | none=>(pts bs.length bs,0,0)
 | some k=>([],2,(k:Int))
def aF (bs:List Int):Int:=if (eU bs).2.1=0 then ((eU bs).1.length:Int) else -1
theorem aDn (f):pts f []=[]:=by cases f<;>simp [pts]
theorem aGj (f k):err f [] k=none:=by cases f<;>simp [err]
theorem aDW {f:Nat} {s:List Int} (A:s≠[]) (h:aJ s≠0):pts (f+1) s=lv s (aJ s)::pts f (s.drop (aJ s)):=by simp [pts,A,h]
theorem aAE {f:Nat} {k} {s:List Int} (A:s≠[]) (h:aJ s≠0):err (f+1) s k=err f (s.drop (aJ s)) (k+aJ s):=by simp [err,A,h]
theorem aC6 {f:Nat} {k} {s:List Int} (A:s≠[]) (h:aJ s=0):err (f+1) s k=some k:=by simp [err,A,h]
theorem aGR (f):∀ s:List Int,(pts f s).length<=f:=by
 induction f with
 | zero=>intro s;simp [pts]
 | succ f ih=>
   intro s;unfold pts
   split
   .simp
   .split
    .simp
    .have:=ih (s.drop (aJ s));simp only [length_cons];omega
theorem aAy (h):(eU h).1.length<=h.length:=by
 unfold eU;split
 .exact aGR _ _
 .simp
theorem zQ {A:List Int} (h:err A.length A 0=none):eU A=(pts A.length A,0,0):=by unfold eU;rw [h]
theorem aAW {A:List Int} {k:Nat} (h:err A.length A 0=some k):eU A=([],2,(k:Int)):=by unfold eU;rw [h]
theorem zW {s n} (h:hit s n=true):n<=s.length:=by
 simp only [hit,Bool.and_eq_true,decide_eq_true_eq] at h;have A:=h.1;unfold lv at A
 split at A
 .omega
 .omega
theorem wM (s):aJ s<=s.length:=by
 unfold aJ
 split
 .exact zW ‹_›
 .split
  .exact zW ‹_›
  .split
   .exact zW ‹_›
   .split
    .exact zW ‹_›
    .omega
theorem aFT (s):aJ s<=4:=by
 unfold aJ;split<;>(try split)<;>(try split)<;>(try split)<;>omega
def Mid (bs acc:List Int) (k:Nat):Prop:=k<=bs.length/\acc.length<=k/\∃ f,bs.length - k<=f/\acc++pts f (bs.drop k)=pts bs.length bs/\err f (bs.drop k) k=err bs.length bs 0
theorem Mid.start (h):Mid h [] 0:=⟨Nat.zero_le _,Nat.le_refl _,h.length,by omega,by simp,by simp⟩
theorem Mid.step {A D k} (h:Mid A D k) (M:k<A.length) (H:aJ (A.drop k)≠0) :
  Mid A (D++[lv (A.drop k) (aJ (A.drop k))]) (k+aJ (A.drop k)):=by
 obtain ⟨O,N,f,S,G,E⟩:=h;have I:A.drop k≠[]:=(by rw [ne_eq,drop_eq_nil_iff];omega);have J:=wM (A.drop k);rw [length_drop] at J;obtain ⟨F,rfl⟩:∃ F,f=F+1:=⟨f - 1,by omega⟩;rw [aDW I H] at G;rw [aAE I H] at E;rw [drop_drop] at G E;refine ⟨by omega,by simp only [length_append,length_singleton];omega,F,by omega,?_,?_⟩
 .rw [<- G];simp
 .exact E
theorem Mid.bad {A D k} (h:Mid A D k) (I:k<A.length) (G:aJ (A.drop k)=0):eU A=([],2,(k:Int)):=by
 obtain ⟨M,J,f,N,O,E⟩:=h;have H:A.drop k≠[]:=(by rw [ne_eq,drop_eq_nil_iff];omega);obtain ⟨F,rfl⟩:∃ F,f=F+1:=⟨f - 1,by omega⟩;rw [aC6 H G] at E;exact aAW E.symm
theorem Mid.done {D A k} (h:Mid D A k) (G:¬ k<D.length):eU D=(A,0,0):=by
 obtain ⟨I,H,f,J,F,E⟩:=h;rw [drop_eq_nil_of_le (by omega),aDn] at F;rw [drop_eq_nil_of_le (by omega),aGj] at E;rw [zQ E.symm,<- F];simp
theorem qM (h:List Int) (k) (j:Nat):(h.drop k)[j]?.getD 0=h[k+j]?.getD 0:=by simp [getElem?_drop]
theorem eP {s:List Int} {n k:Nat} {x} (h:k<n) (A:n<=s.length) :
  jD x ((s.drop k).take (n - k))=if s[k]?.getD 0 / 64=2 then jD (x*64+s[k]?.getD 0%64) ((s.drop (k+1)).take (n - (k+1))) else -1:=by
 rw [drop_eq_getElem_cons (by omega),show n - k=(n - (k+1))+1 by omega,take_succ_cons,jD];simp [show k<s.length by omega]
theorem aBh {s:List Int} {n:Nat} (h:s.length<n):lv s n = -1:=by simp [lv,h]
theorem aC0 {s:List Int} {n:Nat} (h:n<=s.length) (A:jH n (s[0]?.getD 0)<0):lv s n = -1:=by
 rw [lv,if_neg (by omega),if_pos A]
theorem kY {s:List Int} {n:Nat} (h:n<=s.length) (A:0<=jH n (s[0]?.getD 0)):lv s n=jD (jH n (s[0]?.getD 0)) ((s.drop 1).take (n - 1)):=by
 rw [lv,if_neg (by omega),if_neg (by omega)]
theorem lZ (c:Int) (h:c<128):jH 1 c=c:=by simp [jH,h]
theorem aAm (c:Int) (h:c / 32=6):jH 2 c=c%32:=by simp [jH,h]
theorem uF (c:Int) (h:c / 16=14):jH 3 c=c%16:=by simp [jH,h]
theorem xZ (c:Int) (h:c / 8=30):jH 4 c=c%8:=by simp [jH,h]
theorem lV (n:Nat) (c:Int) (h:¬ (n=1/\c<128)) (A:¬ (n=2/\c / 32=6)) (D:¬ (n=3/\c / 16=14)) (E:¬ (n=4/\c / 8=30)):jH n c = -1:=by
 simp only [jH,if_neg h,if_neg A,if_neg D,if_neg E]
theorem aBQ (a:Option Addr) (h A k n:Nat) (w) (H:h<=4194304) (E:k<h) (F:n<=4) (G:h<k+n) :
  Calls prog 126 #[.slice a h A,.int .i64 k,.int .i64 n] w fun e D=>e=.returned (.int .i64 (-1))/\w=D:=by
 go_enter func126,ntmps126
 go_wp2;go_ret;exact ⟨rfl,rfl⟩
theorem aEC (b A h D k n:Nat) (c:Int) (w:World) (O:h<=4194304) (G:0<=c) (I:c<128) (H:w.cell? ⟨b,A+k,none⟩=some (.int .u8 c)) (N:k+n<=h) (J:((n:Int)==1)=true) :
  Calls prog 126 #[.slice (some ⟨b,A,none⟩) h D,.int .i64 k,.int .i64 n] w fun e M=>e=.returned (.int .i64 c)/\w=M:=by
 have E:n=1:=(by simp at J;omega);have F:k<h:=(by omega);clear E
 go_enter func126,ntmps126
 go_wp2;go_ret;exact ⟨rfl,rfl⟩
theorem aFt (b A h N k n:Nat) (c:Int) (w:World) (hm:h<=4194304) (a3:0<=c) (a4:c<=255) (a1:w.cell? ⟨b,A+k,none⟩=some (.int .u8 c)) (hs:k+n<=h) (h1:1<=n) (h4:n<=4)
  (D:¬ (n=1/\c<128)) (G:¬ (n=2/\c / 32=6)) (F:¬ (n=3/\c / 16=14)) (H:¬ (n=4/\c / 8=30)) :
  Calls prog 126 #[.slice (some ⟨b,A,none⟩) h N,.int .i64 k,.int .i64 n] w fun e w'=>e=.returned (.int .i64 (-1))/\w=w':=by
 have a0:k<h:=by omega
 by_cases E:n=1
 .have S:((n:Int)==1)=true:=(by simp;omega);have M:((n:Int)==2)=false:=(by simp;omega);have Y:((n:Int)==3)=false:=(by simp;omega);have I:((n:Int)==4)=false:=(by simp;omega);have J:128<=c:=(by omega);clear D G F H E
  go_enter func126,ntmps126
  go_wp2;go_ret;exact ⟨rfl,rfl⟩
 .by_cases O:n=2
  .have S:((n:Int)==1)=false:=(by simp;omega);have M:((n:Int)==2)=true:=(by simp;omega);have Y:((n:Int)==3)=false:=(by simp;omega);have I:((n:Int)==4)=false:=(by simp;omega);have J:(c / 32==6)=false:=(by simp;omega);clear D G F H E O
   go_enter func126,ntmps126
   go_wp2;go_ret;exact ⟨rfl,rfl⟩
  .by_cases Z:n=3
   .have S:((n:Int)==1)=false:=(by simp;omega);have M:((n:Int)==2)=false:=(by simp;omega);have Y:((n:Int)==3)=true:=(by simp;omega);have I:((n:Int)==4)=false:=(by simp;omega);have J:(c / 16==14)=false:=(by simp;omega);clear D G F H E O Z
    go_enter func126,ntmps126
    go_wp2;go_ret;exact ⟨rfl,rfl⟩
   .have S:((n:Int)==1)=false:=(by simp;omega);have M:((n:Int)==2)=false:=(by simp;omega);have Y:((n:Int)==3)=false:=(by simp;omega);have I:((n:Int)==4)=true:=(by simp;omega);have J:(c / 8==30)=false:=(by simp;omega);clear D G F H E O Z
    go_enter func126,ntmps126
    go_wp2;go_ret;exact ⟨rfl,rfl⟩
theorem qZ (b a6 c9 k n:Nat) (D:List Int) (c:Int) (w:World) (hm:D.length<=4194304) (a5:Bys D) (c0:c=D[k]?.getD 0) (hs:k+n<=D.length) (h2:2<=n) (h4:n<=4)
  (hc:∀ j,j<D.length->w.cell? ⟨b,a6+j,none⟩=some (.int .u8 (D[j]?.getD 0)))
  (b7:(n=2/\c / 32=6)\/(n=3/\c / 16=14)\/(n=4/\c / 8=30)) :
  Calls prog 126 #[.slice (some ⟨b,a6,none⟩) D.length c9,.int .i64 k,.int .i64 n] w fun e w'=>e=.returned (.int .i64 (jD (jH n c) (((D.drop k).drop 1).take (n - 1))))/\w=w':=by
 have c7:k<D.length:=(by omega);have c8:=hc k c7;have a9:=a5.get k;rw [<- c0] at c8 a9;clear c0;obtain ⟨d7,d8⟩:=a9;have HC:Hid (∀ j,j<D.length->w.cell? ⟨b,a6+j,none⟩=some (.int .u8 (D[j]?.getD 0))):=hc;clear hc;have t1:((n:Int)==1)=false:=(by simp;omega);obtain ⟨x0,E⟩:∃ x0,x0=jH n c:=⟨_,rfl⟩;rw [<- E];obtain ⟨R,hR⟩:∃ R,R=jD x0 (((D.drop k).drop 1).take (n - 1)):=⟨_,rfl⟩;rw [<- hR];have HR:Hid (R=jD x0 (((D.drop k).drop 1).take (n - 1))):=hR;clear hR;rcases b7 with ⟨H,hd⟩ | ⟨H,hd⟩ | ⟨H,hd⟩
 .have a3:x0=c%32:=(by rw [E,H];exact aAm c hd);have t2:((n:Int)==2)=true:=(by simp;omega);have t3:((n:Int)==3)=false:=(by simp;omega);have t4:((n:Int)==4)=false:=(by simp;omega);have b5:(c / 32==6)=true:=(by simp [hd]);clear hd E H;subst a3
  go_enter func126,ntmps126
  go_wp2
  go_loop [8,9] (fun v i=>∃ (j:Nat) (x:Int),1<=j/\j<=n/\i=.int .i64 j/\v=.int .i64 x/\0<=x/\(j=1->x<32)/\(j=2->x<2048)/\(j=3->x<131072)/\(j=4->x<8388608)/\Hid (R=jD x (((D.drop k).drop j).take (n - j))))
   (fun _ i=>n - (intOf i).toNat)
  case atStart=>exact ⟨1,_,by omega,by omega,rfl,rfl,by omega,fun _=>by omega,fun _=>by omega,fun _=>by omega,fun _=>by omega,HR⟩
  case round=>
   obtain ⟨j,x,b9,a8,rfl,rfl,E,O,S,Y,b4,N⟩:=hrel;have c2:x<8388608:=by omega
   by_cases a0:j<n
   .have h:=eP (s:=D.drop k) (x:=x) a0 (by rw [length_drop];omega);rw [qM] at h;have a1:=HC.out (k+j) (by omega);have M:=a5.get (k+j);have I:j=1->x<32:=O;have J:j=2->x<2048:=S;have F:j=3->x<131072:=Y;generalize D[k+j]?.getD 0=d at h a1 M;obtain ⟨c1,b6⟩:=M;have c3:k+j<D.length:=by omega
    by_cases A:d / 64=2
    .rw [if_pos A] at h;have G:Hid (R=jD (x*64+d%64) (((D.drop k).drop (j+1)).take (n - (j+1)))):=(by unfold Hid;rw [N.out];exact h);have Z:(d / 64 != 2)=false:=(by simp [A]);have q1:j+1=1->x*64+d%64<32:=(by omega);have q2:j+1=2->x*64+d%64<2048:=(by omega);have q3:j+1=3->x*64+d%64<131072:=(by omega);have q4:j+1=4->x*64+d%64<8388608:=(by omega);clear h A O S Y b4 I J F;go_wp2
     go_round
     case rel=>exact ⟨j+1,_,by omega,by omega,by go_num,rfl,by omega,q1,q2,q3,q4,G.out⟩
     case measure=>simp [intOf];omega
    .rw [if_neg A] at h;have G:Hid (R = -1):=(by unfold Hid;rw [N.out];exact h);have Z:(d / 64 != 2)=true:=(by simp [A]);clear h A O S Y b4 I J F;go_wp2;go_ret;exact ⟨by rw [G.out];rfl,rfl⟩
   .have G:Hid (R=x):=by
     unfold Hid;rw [N.out,show n - j=0 by omega];simp [jD]
    clear O S Y b4 N;go_wp2;go_ret;exact ⟨by rw [G.out];rfl,rfl⟩
 .have a3:x0=c%16:=(by rw [E,H];exact uF c hd);have t2:((n:Int)==2)=false:=(by simp;omega);have t3:((n:Int)==3)=true:=(by simp;omega);have t4:((n:Int)==4)=false:=(by simp;omega);have b5:(c / 16==14)=true:=(by simp [hd]);clear hd E H;subst a3
  go_enter func126,ntmps126
  go_wp2
  go_loop [8,9] (fun v i=>∃ (j:Nat) (x:Int),1<=j/\j<=n/\i=.int .i64 j/\v=.int .i64 x/\0<=x/\(j=1->x<32)/\(j=2->x<2048)/\(j=3->x<131072)/\(j=4->x<8388608)/\Hid (R=jD x (((D.drop k).drop j).take (n - j))))
   (fun _ i=>n - (intOf i).toNat)
  case atStart=>exact ⟨1,_,by omega,by omega,rfl,rfl,by omega,fun _=>by omega,fun _=>by omega,fun _=>by omega,fun _=>by omega,HR⟩
  case round=>
   obtain ⟨j,x,b9,a8,rfl,rfl,E,O,S,Y,b4,N⟩:=hrel;have c2:x<8388608:=by omega
   by_cases a0:j<n
   .have h:=eP (s:=D.drop k) (x:=x) a0 (by rw [length_drop];omega);rw [qM] at h;have a1:=HC.out (k+j) (by omega);have M:=a5.get (k+j);have I:j=1->x<32:=O;have J:j=2->x<2048:=S;have F:j=3->x<131072:=Y;generalize D[k+j]?.getD 0=d at h a1 M;obtain ⟨c1,b6⟩:=M;have c3:k+j<D.length:=by omega
    by_cases A:d / 64=2
    .rw [if_pos A] at h;have G:Hid (R=jD (x*64+d%64) (((D.drop k).drop (j+1)).take (n - (j+1)))):=(by unfold Hid;rw [N.out];exact h);have Z:(d / 64 != 2)=false:=(by simp [A]);have q1:j+1=1->x*64+d%64<32:=(by omega);have q2:j+1=2->x*64+d%64<2048:=(by omega);have q3:j+1=3->x*64+d%64<131072:=(by omega);have q4:j+1=4->x*64+d%64<8388608:=(by omega);clear h A O S Y b4 I J F;go_wp2
     go_round
     case rel=>exact ⟨j+1,_,by omega,by omega,by go_num,rfl,by omega,q1,q2,q3,q4,G.out⟩
     case measure=>simp [intOf];omega
    .rw [if_neg A] at h;have G:Hid (R = -1):=(by unfold Hid;rw [N.out];exact h);have Z:(d / 64 != 2)=true:=(by simp [A]);clear h A O S Y b4 I J F;go_wp2;go_ret;exact ⟨by rw [G.out];rfl,rfl⟩
   .have G:Hid (R=x):=by
     unfold Hid;rw [N.out,show n - j=0 by omega];simp [jD]
    clear O S Y b4 N;go_wp2;go_ret;exact ⟨by rw [G.out];rfl,rfl⟩
 .have a3:x0=c%8:=(by rw [E,H];exact xZ c hd);have t2:((n:Int)==2)=false:=(by simp;omega);have t3:((n:Int)==3)=false:=(by simp;omega);have t4:((n:Int)==4)=true:=(by simp;omega);have b5:(c / 8==30)=true:=(by simp [hd]);clear hd E H;subst a3
  go_enter func126,ntmps126
  go_wp2
  go_loop [8,9] (fun v i=>∃ (j:Nat) (x:Int),1<=j/\j<=n/\i=.int .i64 j/\v=.int .i64 x/\0<=x/\(j=1->x<32)/\(j=2->x<2048)/\(j=3->x<131072)/\(j=4->x<8388608)/\Hid (R=jD x (((D.drop k).drop j).take (n - j))))
   (fun _ i=>n - (intOf i).toNat)
  case atStart=>exact ⟨1,_,by omega,by omega,rfl,rfl,by omega,fun _=>by omega,fun _=>by omega,fun _=>by omega,fun _=>by omega,HR⟩
  case round=>
   obtain ⟨j,x,b9,a8,rfl,rfl,E,O,S,Y,b4,N⟩:=hrel;have c2:x<8388608:=by omega
   by_cases a0:j<n
   .have h:=eP (s:=D.drop k) (x:=x) a0 (by rw [length_drop];omega);rw [qM] at h;have a1:=HC.out (k+j) (by omega);have M:=a5.get (k+j);have I:j=1->x<32:=O;have J:j=2->x<2048:=S;have F:j=3->x<131072:=Y;generalize D[k+j]?.getD 0=d at h a1 M;obtain ⟨c1,b6⟩:=M;have c3:k+j<D.length:=by omega
    by_cases A:d / 64=2
    .rw [if_pos A] at h;have G:Hid (R=jD (x*64+d%64) (((D.drop k).drop (j+1)).take (n - (j+1)))):=(by unfold Hid;rw [N.out];exact h);have Z:(d / 64 != 2)=false:=(by simp [A]);have q1:j+1=1->x*64+d%64<32:=(by omega);have q2:j+1=2->x*64+d%64<2048:=(by omega);have q3:j+1=3->x*64+d%64<131072:=(by omega);have q4:j+1=4->x*64+d%64<8388608:=(by omega);clear h A O S Y b4 I J F;go_wp2
     go_round
     case rel=>exact ⟨j+1,_,by omega,by omega,by go_num,rfl,by omega,q1,q2,q3,q4,G.out⟩
     case measure=>simp [intOf];omega
    .rw [if_neg A] at h;have G:Hid (R = -1):=(by unfold Hid;rw [N.out];exact h);have Z:(d / 64 != 2)=true:=(by simp [A]);clear h A O S Y b4 I J F;go_wp2;go_ret;exact ⟨by rw [G.out];rfl,rfl⟩
   .have G:Hid (R=x):=by
     unfold Hid;rw [N.out,show n - j=0 by omega];simp [jD]
    clear O S Y b4 N;go_wp2;go_ret;exact ⟨by rw [G.out];rfl,rfl⟩
theorem zD (v A) (k n:Nat) (w:World) (hv:RdB w.heap.size w v A) (G:Bys A) (J:A.length<=4194304) (hk:k<A.length) (h1:1<=n) (Z:n<=4) :
  Calls prog 126 #[v,.int .i64 k,.int .i64 n] w fun e w'=>e=.returned (.int .i64 (lv (A.drop k) n))/\w=w':=by
 obtain ⟨a,E,rfl,hr⟩:=hv;have a3:(A.drop k).length=A.length - k:=length_drop
 by_cases hs:A.length<k+n
 .rw [aBh (by omega)];exact aBQ a A.length E k n w J hk Z hs
 .obtain ⟨b,F,rfl,hb,hc⟩:=hr (fun h=>by simp [h] at hk);have D:(A.drop k)[0]?.getD 0=A[k]?.getD 0:=(by rw [qM];rfl);have H:=G.get k;have O:=hc k hk
  by_cases c1:n=1/\A[k]?.getD 0<128
  .obtain ⟨rfl,I⟩:=c1;rw [kY (by omega) (by rw [D,lZ _ I];exact H.1),D,lZ _ I];exact aEC b F A.length E k 1 _ w J H.1 I O (by omega) rfl
  .by_cases S:n=2/\A[k]?.getD 0 / 32=6
   .have N:jH n (A[k]?.getD 0)=A[k]?.getD 0%32:=(by rw [S.1];exact aAm _ S.2);rw [kY (by omega) (by rw [D,N];omega),D];exact qZ b F E k n A _ w J G rfl (by omega) (by omega) Z hc (.inl S)
   .by_cases Y:n=3/\A[k]?.getD 0 / 16=14
    .have N:jH n (A[k]?.getD 0)=A[k]?.getD 0%16:=(by rw [Y.1];exact uF _ Y.2);rw [kY (by omega) (by rw [D,N];omega),D];exact qZ b F E k n A _ w J G rfl (by omega) (by omega) Z hc (.inr (.inl Y))
    .by_cases M:n=4/\A[k]?.getD 0 / 8=30
     .have N:jH n (A[k]?.getD 0)=A[k]?.getD 0%8:=(by rw [M.1];exact xZ _ M.2);rw [kY (by omega) (by rw [D,N];omega),D];exact qZ b F E k n A _ w J G rfl (by omega) (by omega) Z hc (.inr (.inr M))
     .rw [aC0 (by omega) (by rw [D,lV _ _ c1 S Y M];omega)];exact aFt b F A.length E k n _ w J H.1 H.2 O (by omega) h1 Z c1 S Y M
theorem jZ (p:Int) (w):Calls prog 122 #[.int .i64 p] w fun e F=>e=.returned (.int .i64 (cP p))/\w=F:=by
 by_cases I:p<0
 .have h:Hid (cP p=0):=by simp [Hid,cP,cC];omega
  go_enter func122,ntmps122
  go_wp2;go_ret;exact ⟨by rw [h.out];rfl,rfl⟩
 .by_cases G:1114111<p
  .have h:Hid (cP p=0):=by simp [Hid,cP,cC];omega
   go_enter func122,ntmps122
   go_wp2;go_ret;exact ⟨by rw [h.out];rfl,rfl⟩
  .by_cases H:p<55296
   .have A:cC p=true:=by simp [cC];omega
    by_cases E:p<128
    .have h:Hid (cP p=1):=(by simp [Hid,cP,A,E]);clear A
     go_enter func122,ntmps122
     go_wp2;go_ret;exact ⟨by rw [h.out];rfl,rfl⟩
    .by_cases D:p<2048
     .have h:Hid (cP p=2):=(by simp [Hid,cP,A,E,D]);clear A
      go_enter func122,ntmps122
      go_wp2;go_ret;exact ⟨by rw [h.out];rfl,rfl⟩
     .have h:Hid (cP p=3):=(by simp [Hid,cP,A,E,D];omega);clear A
      go_enter func122,ntmps122
      go_wp2;go_ret;exact ⟨by rw [h.out];rfl,rfl⟩
   .by_cases E:p<=57343
    .have h:Hid (cP p=0):=by simp [Hid,cP,cC];omega
     go_enter func122,ntmps122
     go_wp2;go_ret;exact ⟨by rw [h.out];rfl,rfl⟩
    .have A:cC p=true:=by simp [cC];omega
     by_cases D:p<65536
     .have h:Hid (cP p=3):=(by simp [Hid,cP,A,D];omega);clear A
      go_enter func122,ntmps122
      go_wp2;go_ret;exact ⟨by rw [h.out];rfl,rfl⟩
     .have h:Hid (cP p=4):=(by simp [Hid,cP,A,D];omega);clear A
      go_enter func122,ntmps122
      go_wp2;go_ret;exact ⟨by rw [h.out];rfl,rfl⟩
theorem aEG {s} {m:Nat} (N:1<=m) (M:m<=4) (A:∀ j,1<=j->j<m->hit s j=false) (h:hit s m=true):aJ s=m:=by
 unfold aJ
 by_cases G:m=1
 .subst G;simp [h]
 .have D:=A 1 (by omega) (by omega)
  by_cases F:m=2
  .subst F;simp [h,D]
  .have E:=A 2 (by omega) (by omega)
   by_cases I:m=3
   .subst I;simp [h,D,E]
   .have J:=A 3 (by omega) (by omega);have H:m=4:=(by omega);subst H;simp [h,D,E,J]
theorem aA7 {s} {m:Nat} (A:4<m) (h:∀ j,1<=j->j<m->hit s j=false):aJ s=0:=by
 unfold aJ;simp [h 1 (by omega) (by omega),h 2 (by omega) (by omega),h 3 (by omega) (by omega),h 4 (by omega) (by omega)]
theorem wG {s} {m:Nat} (A:∀ j,1<=j->j<m->hit s j=false) (h:hit s m=false):∀ j,1<=j->j<m+1->hit s j=false:=by
 intro j D E
 by_cases e:j=m
 .rw [e];exact h
 .exact A j D (by omega)
theorem nM (v D) (w:World) (hv:RdB w.heap.size w v D) (a8:Bys D) (hn:D.length<=1048576) :
  Calls prog 89 #[v] w fun e w'=>∃ v',e=.returned (.tuple #[v',.int .i64 (eU D).2.1,.int .i64 (eU D).2.2])/\OwI w.heap.size w' v' (eU D).1/\w.grownBy w' none:=by
 obtain ⟨i0,hi,b0,b2,b1⟩:=info_parts aAp;obtain ⟨a,a1,rfl,hr⟩:=hv;have HV:Hid (RdB w.heap.size w (.slice a D.length a1) D):=⟨a,a1,rfl,hr⟩;clear hr
 go_enter func89,ntmps89
 go_wp2
 go_loopw [5,6] (fun v i wr=>∃ (k:Nat) (E:List Int),i=.int .i64 k/\OwI w.heap.size wr v E/\Mid D E k/\Below w.heap.size w wr)
  (fun _ i _=>D.length - (intOf i).toNat)
 case atStart=>exact ⟨0,[],rfl,ownsRow_nil _ _ _ _,Mid.start D,Below.refl _ _⟩
 case round=>
  obtain ⟨k,E,rfl,F,G,H⟩:=hrel;have c4:=G.1;have b8:=G.2.1;have HM:Hid (Mid D E k):=G;clear G
  by_cases S:k<D.length
  .obtain ⟨s,hs⟩:∃ s,s=D.drop k:=⟨_,rfl⟩;have HS:Hid (s=D.drop k):=hs;clear hs;have HR:Hid (RdB wr.heap.size wr (.slice a D.length a1) D):=HV.out.later (aC H);go_wp2
   go_loop [5,7,8] (fun o st i=>o=u5/\st=.int .i64 0/\∃ m:Nat,1<=m/\m<=5/\i=.int .i64 m/\Hid (∀ j,1<=j->j<m->hit s j=false))
    (fun _ _ i=>5 - (intOf i).toNat)
   case atStart=>exact ⟨rfl,rfl,1,by omega,by omega,rfl,fun j h1 h2=>by omega⟩
   case round=>
    obtain ⟨rfl,rfl,m,a4,b9,rfl,Y⟩:=hrel
    by_cases a3:m<=4
    .have N:=zD _ D k m wr HR.out a8 (by omega) S a4 a3;rw [<- HS.out] at N;have A:=N;clear N
     by_cases Z:0<=lv s m
     .cases hh:(cP (lv s m)==(m:Int))
      .have O:Hid (∀ j,1<=j->j<m+1->hit s j=false):=wG Y.out (by simp [hit,hh]);generalize lv s m=x at A Z hh
       go_wp2_with (first
        | (go_at_call 126;refine A.mono ?_;rintro e w' ⟨rfl,rfl⟩)
        | (go_at_call 122;refine (jZ _ _).mono ?_;rintro e w' ⟨rfl,rfl⟩))
       go_round
       case rel=>exact ⟨rfl,rfl,m+1,by omega,by omega,by go_num,O⟩
       case measure=>simp [intOf];omega
      .have a0:Hid (aJ s=m):=aEG a4 a3 Y.out (by simp [hit,hh,Z]);have c0:((m:Int)==0)=false:=by simp;omega
       have M:Hid (Mid D (E++[lv s m]) (k+m)):=by
        have h:=HM.out.step S (by rw [<- HS.out,a0.out];omega);rw [<- HS.out,a0.out] at h;exact h
       have c1:k+m<=D.length:=M.out.1;generalize lv s m=x at A Z hh M
       go_wp2_with (first
        | (go_at_call 126;refine A.mono ?_;rintro e w' ⟨rfl,rfl⟩)
        | (go_at_call 122;refine (jZ _ _).mono ?_;rintro e w' ⟨rfl,rfl⟩)
        | (at_builtin;refine wpList_append_own _ rfl _ _ 35 rfl w.heap.size 3 i0 (.int .i64 0) 1 8 underlying35 hi b0 b2 b1 rfl (by decide) _ _ _ rfl (ownsRow.alloc F _) ⟨wr.heap.size,0,none⟩ 1 1 [.int .i64 x] rfl rfl (cell_one_new _ _ _) (by intro u hu;simp at hu;subst hu;rfl) (by unfold maxLen;omega) (by omega) (by have:=H.size;simp;omega) ?_;intro v' w1 I J _))
       have R:=cG (xs:=[x]) _ H.size F I (by simp) J;clear I J F A;go_wp2
       go_roundw
       case rel=>exact ⟨k+m,E++[x],by go_num,R.1,M.out,H.trans R.2⟩
       case measure=>simp [intOf];omega
     .have O:Hid (∀ j,1<=j->j<m+1->hit s j=false):=wG Y.out (by simp [hit];omega);generalize lv s m=x at A Z;have c2:x<0:=by omega
      go_wp2_with (go_at_call 126;refine A.mono ?_;rintro e w' ⟨rfl,rfl⟩)
      go_round
      case rel=>exact ⟨rfl,rfl,m+1,by omega,by omega,by go_num,O⟩
      case measure=>simp [intOf];omega
    .have a0:Hid (aJ s=0):=aA7 (by omega) Y.out
     have HD:Hid (eU D=([],2,(k:Int))):=by
      refine HM.out.bad S ?_;rw [<- HS.out];exact a0.out
     go_wp2
     go_ret3
     exact ⟨_,by rw [HD.out];rfl,by rw [HD.out];exact ownsRow_nil _ _ _ _,aC H⟩
  .have HD:Hid (eU D=(E,0,0)):=HM.out.done S;go_wp2
   go_ret3
   exact ⟨_,by rw [HD.out];rfl,by rw [HD.out];exact F,aC H⟩
end Go.Proofs.YtckcaefnokeodaaGreatDoor
