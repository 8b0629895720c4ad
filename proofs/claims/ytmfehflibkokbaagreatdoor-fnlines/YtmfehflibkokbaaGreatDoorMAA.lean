import Derived.Test.YtmfehflibkokbaaGreatDoorProg
import Derived.WalkKit
import Derived.WalkSpells
import Derived.WalkLawsBesides
import Derived.Deep.QuietTactic
import Derived.BigQuiet
set_option maxHeartbeats 16000000
set_option maxRecDepth 100000
namespace Go.Proofs.YtmfehflibkokbaaGreatDoor
open Go.Proofs.Tryz
open Go.RowKit
theorem mF:(prog.info? 5).map (fun i=>(i.zero,i.size,i.bytes))=some (some (.int .u8 0),1,1):=by kernel_rfl
theorem aBg:(prog.info? 3).map (fun i=>(i.zero,i.size,i.bytes))=some (some (.int .i64 0),1,8):=by kernel_rfl
def Rd (q:IntKind) (B:Nat) (w:World) (v:Value) (zs:List Int):Prop:=
 ∃ a cap,v=.slice a zs.length cap/\(zs≠[]->∃ b off,a=some ⟨b,off,none⟩/\b<B/\∀ j,j<zs.length->w.cell? ⟨b,off+j,none⟩=some (.int q (zs[j]?.getD 0)))
abbrev RdI (B:Nat) (w:World) (v:Value) (zs:List Int):Prop:=Rd .i64 B w v zs
abbrev RdB (B:Nat) (w:World) (v:Value) (zs:List Int):Prop:=Rd .u8 B w v zs
def Ow (q:IntKind) (t:TypeId) (B:Nat) (w:World) (v:Value) (zs:List Int):Prop:=w.ownsRow B t 1 v zs.length (zs.map (Value.int q))
abbrev OwI (B:Nat) (w:World) (v:Value) (zs:List Int):Prop:=Ow .i64 3 B w v zs
abbrev OwB (B:Nat) (w:World) (v:Value) (zs:List Int):Prop:=Ow .u8 5 B w v zs
theorem Ow.rd {q:IntKind} {t:TypeId} {B:Nat} {w:World} {v:Value} {zs:List Int} (h:Ow q t B w v zs):Rd q w.heap.size w v zs:=by
 rcases h.2 with ⟨hv,y⟩ | ⟨g,cap,N,hv,S,M,E,J,D,O⟩
 ·subst hv;refine ⟨_,0,by rw [y],fun G=>absurd (List.eq_nil_of_length_eq_zero y) G⟩
 ·subst hv;refine ⟨_,cap,rfl,fun _=>⟨g,0,rfl,(Array.getElem?_eq_some_iff.1 M).1,fun j A=>?_⟩⟩;have:=World.ownsRow.cellAt h j (by simpa using A);simp only [Nat.zero_add];rw [this];simp [A]
theorem Rd.later {q:IntKind} {B:Nat} {w w':World} {v:Value} {zs:List Int} (h:Rd q B w v zs) (E:w.grownBy w' none):Rd q w'.heap.size w' v zs:=by
 obtain ⟨a,cap,hv,J⟩:=h;refine ⟨a,cap,hv,fun A=>?_⟩;obtain ⟨b,off,M,O,D⟩:=J A;have G:=D 0 (List.length_pos_iff.2 A);have y:b<w.heap.size:=World.block_lt_of_cell? w _ G;exact ⟨b,off,M,Nat.lt_of_lt_of_le y E.size,fun j N=>E.cell (D j N) (by simp)⟩
theorem Rd.beside {q:IntKind} {B:Nat} {w w':World} {v:Value} {zs:List Int} {y:Option Nat} (h:Rd q B w v zs) (J:w.grownBy w' y) (G:∀ k,y=some k->B<=k):Rd q B w' v zs:=by
 obtain ⟨a,cap,hv,A⟩:=h;refine ⟨a,cap,hv,fun D=>?_⟩;obtain ⟨b,off,M,N,E⟩:=A D;exact ⟨b,off,M,N,fun j O=>J.cell (E j O) (fun e=>by have:=G b e.symm;omega)⟩
theorem Ow.later {q:IntKind} {t:TypeId} {B:Nat} {w w':World} {v:Value} {zs:List Int} (h:Ow q t B w v zs) (y:w.grownBy w' none):Ow q t B w' v zs:=
 World.ownsRow.kept h y (by cases hv:v.ownBlock<;>simp)
theorem Ow.beside {q:IntKind} {t:TypeId} {B:Nat} {w w':World} {v:Value} {zs:List Int} {y:Option Nat} (h:Ow q t B w v zs) (D:w.grownBy w' y) (A:∀ k,v.ownBlock=some k->∀ j,y=some j->k≠j):Ow q t B w' v zs:=by
 refine World.ownsRow.kept h D ?_;cases hv:v.ownBlock with
 | none=>exact .inl rfl
 | some k=>
   refine .inr fun e=>?_;exact A k hv k e.symm rfl
theorem gWA {w:World} {o:Obj} {r:Option Nat} : w.grownBy (w.alloc o) r:=World.grownBy_alloc w o r
theorem aA {a b c:World} {r:Option Nat} (h:a.grownBy b r) (k:b.grownBy c r):a.grownBy c r:=
 ⟨k.os.trans h.os,k.tape.trans h.tape,k.output.trans h.output,Nat.le_trans h.size k.size,fun i A y=>(k.block i (Nat.lt_of_lt_of_le A h.size) y).trans (h.block i A y)⟩
theorem bA {a b c:World} {r:Option Nat} (h:a.grownBy b none) (k:b.grownBy c r) (A:∀ j,r=some j->a.heap.size<=j):a.grownBy c none:=
 ⟨k.os.trans h.os,k.tape.trans h.tape,k.output.trans h.output,Nat.le_trans h.size k.size,fun i y _=>(k.block i (Nat.lt_of_lt_of_le y h.size) (fun e=>by have:=A i e.symm;omega)).trans (h.block i y (by simp))⟩
theorem cO {a b:World} {r:Option Nat} (h:a.grownBy b r) (n:Nat):a.grownBy (b.drewN n) r:=⟨h.os,h.tape,h.output,h.size,h.block⟩
theorem aT {w w':World} (h:w.grownBy w' none):Below w.heap.size w w':=⟨h.os,h.tape,h.output,h.size,fun k y=>h.block k y (by simp)⟩
theorem aC {w w':World} (h:Below w.heap.size w w'):w.grownBy w' none:=⟨h.os,h.tape,h.output,h.size,fun k y _=>h.block k y⟩
theorem eG (zs:List Int) (k:Nat) (h:k<zs.length):zs.take (k+1)=zs.take k++[zs[k]?.getD 0]:=by
 rw [List.take_add_one,List.getElem?_eq_getElem h];rfl
theorem dP {w:World} {B B':Nat} {e:TypeId} {size:Nat} {v:Value} {k:Nat} {xs:List Value} (h:B'<=B) (A:w.ownsRow B e size v k xs):w.ownsRow B' e size v k xs:=by
 refine ⟨A.1,?_⟩;rcases A.2 with D | ⟨g,cap,y,hv,E,rest⟩
 ·exact .inl D
 ·exact .inr ⟨g,cap,y,hv,by omega,rest⟩
theorem eK {q:IntKind} {t:TypeId} {B:Nat} {w A:World} {v D:Value} {ys xs:List Int} {o:Obj} (n:Nat) (J:B<=w.heap.size)
  (hv:Ow q t B w v ys) (h:A.ownsRow B t 1 D n (ys.map (Value.int q)++xs.map (Value.int q))) (E:n=(ys++xs).length) (y:(w.alloc o).grownBy A v.ownBlock) :
  Ow q t B A D (ys++xs)/\Below B w A:=by
 subst E;refine ⟨by unfold Ow;simpa using h,((Below.refl B w).alloc J o).grown y (by simp;omega) (fun k G=>(World.ownsRow.lt hv k G).1)⟩
theorem aGs {q:IntKind} (x:Addr) (ys E:List Int) (y cap:Nat) (w:World) (G:ys=E.take y) (M:ys.length=y) (S:y<=E.length)
  (h:∀ i,i<E.length->w.cell? (x.add i)=some (.int q (E.getD i 0))):Rd q w.heap.size w (.slice (some x) ys.length cap) ys:=by
 refine ⟨some x,cap,rfl,fun O=>?_⟩;have U:0<ys.length:=List.length_pos_iff.2 O;obtain ⟨b,off,D⟩:=x;have N:=h 0 (by omega);have A:D=none:=(by simpa [Addr.add] using World.cell?_spot N);subst A;refine ⟨b,off,rfl,?_,fun j X=>?_⟩
 ·have:=World.block_lt_of_cell? w _ N;simpa [Addr.add] using this
 ·have J:j<y:=(by omega);have:=h j (by omega);rw [Addr.add_lit] at this;rw [this,G];simp [List.getD,J]
theorem Rd.now {q:IntKind} {B:Nat} {w:World} {v:Value} {zs:List Int} (h:Rd q B w v zs):Rd q w.heap.size w v zs:=h.later (World.grownBy.refl _ _)
theorem Rd.K {q:IntKind} {B:Nat} {w w':World} {v:Value} {zs:List Int} (h:Rd q B w v zs) (y:w.grownBy w' none):Rd q B w' v zs:=h.beside y (fun _ e=>by cases e)
def Sl (v:Value) (n:Nat):Prop:=∃ a cap,v=.slice a n cap/\n<=cap/\cap<=maxLen
theorem Ow.sl {q:IntKind} {t:TypeId} {B:Nat} {w:World} {v:Value} {zs:List Int} (h:Ow q t B w v zs):Sl v zs.length:=by
 rcases h.2 with ⟨hv,E⟩ | ⟨g,cap,G,hv,N,M,A,y,D,J⟩
 ·exact ⟨_,0,by rw [hv,E],by omega,by unfold maxLen;omega⟩
 ·exact ⟨_,cap,hv,A,y⟩
theorem aB {p:Prop} (h:p):Hid p:=h
def zI (p:Int):Bool:=decide (0<=p/\p<=1114111)
def bZ (p:Int):Bool:=decide (0<=p/\p<65536)
def lH (p:Int):Bool:=decide (55296<=p/\p<56320)
def lP (p:Int):Bool:=decide (56320<=p/\p<=57343)
theorem lE (zs:List Int) (f:Int->Bool) (k:Nat) (A:k<zs.length) (h:(zs.take k).all f=true) (y:f (zs[k]?.getD 0)=true):(zs.take (k+1)).all f=true:=by
 rw [eG zs k A,List.all_append,h];simp [y]
theorem xU (zs:List Int) (f:Int->Bool) (k:Nat) (h:k<zs.length) (y:f (zs[k]?.getD 0)=false):zs.all f=false:=by
 rw [List.all_eq_false];exact ⟨zs[k],List.getElem_mem h,by simpa [h] using y⟩
def bW (p:Int):Bool:=decide ((0<=p/\p<=1114111)/\¬ (55296<=p/\p<=57343))
def cK (p:Int):Int:=if bW p then (if p<128 then 1 else if p<2048 then 2 else if p<65536 then 3 else 4) else 0
def enc (p:Int):List Int:=
 if p<128 then [p] else if p<2048 then [192+p / 64,128+p%64] else if p<65536 then [224+p / 4096,128+p / 64%64,128+p%64]
 else [240+p / 262144,128+p / 4096%64,128+p / 64%64,128+p%64]
def aP (zs:List Int):List Int:=zs.flatMap enc
def aB1 (zs:List Int):List Int × Int:=if zs.all bW then (aP zs,0) else ([],1)
def st:Nat->Int->Int × List Int
 | 0,p=>(p,[])
 | k+1,p=>((st k p).1 / 64,(128+(st k p).1%64)::(st k p).2)
theorem aLx (k:Nat) (p:Int):(st k p).2.length=k:=by
 induction k with
 | zero=>rfl
 | succ k ih=>simp [st,ih]
theorem aL0 (k:Nat) (p:Int) (y:0<=p) (h:p<=1114111):0<=(st k p).1/\(st k p).1<=1114111:=by
 induction k with
 | zero=>exact ⟨y,h⟩
 | succ k ih=>simp only [st];omega
theorem aE5 {p:Int} (h:bW p=true):(0<=p/\p<=1114111)/\¬ (55296<=p/\p<=57343):=of_decide_eq_true h
theorem wB (p:Int) (h:p<128):enc p=[p]:=by simp only [enc,if_pos h]
theorem aEM (p:Int) (h:¬ p<128) (y:p<2048):enc p=[192+p / 64,128+p%64]:=by simp only [enc,if_neg h,if_pos y]
theorem aEr (p:Int) (h:¬ p<2048) (y:p<65536):enc p=[224+p / 4096,128+p / 64%64,128+p%64]:=by
 simp only [enc,if_neg (show ¬ p<128 by omega),if_neg h,if_pos y]
theorem aEV (p:Int) (h:¬ p<65536):enc p=[240+p / 262144,128+p / 4096%64,128+p / 64%64,128+p%64]:=by
 simp only [enc,if_neg (show ¬ p<128 by omega),if_neg (show ¬ p<2048 by omega),if_neg h]
theorem st2 (p:Int) (h:¬ p<128) (y:p<2048):(192+(st 1 p).1)::(st 1 p).2=enc p:=by rw [aEM p h y];rfl
theorem st3 (p:Int) (h:¬ p<2048) (y:p<65536):(224+(st 2 p).1)::(st 2 p).2=enc p:=by
 rw [aEr p h y];simp only [st,List.cons.injEq,and_true];omega
theorem st4 (p:Int) (h:¬ p<65536):(240+(st 3 p).1)::(st 3 p).2=enc p:=by
 rw [aEV p h];simp only [st,List.cons.injEq,and_true];omega
theorem xO (p:Int):1<=(enc p).length/\(enc p).length<=4:=by unfold enc;split<;>(try split)<;>(try split)<;>simp
theorem aDn (zs:List Int) (h:zs.all bW=false):aB1 zs=([],1):=by simp [aB1,h]
theorem oK (zs:List Int) (h:zs.all bW=true):aB1 zs=(aP zs,0):=by simp [aB1,h]
theorem aHT (p:Int):bW p=(zI p && !lH p && !lP p):=by
 rw [Bool.eq_iff_iff];simp [bW,zI,lH,lP];omega
def Bys (zs:List Int):Prop:=∀ z∈zs,0<=z/\z<=255
theorem Bys.get {zs:List Int} (h:Bys zs) (k:Nat):0<=zs[k]?.getD 0/\zs[k]?.getD 0<=255:=by
 by_cases y:k<zs.length
 ·rw [List.getElem?_eq_getElem y];exact h _ (List.getElem_mem y)
 ·rw [List.getElem?_eq_none (by omega)];simp
def iJ:Int->List Int->Int
 | v,[]=>v
 | v,d::r=>if d / 64=2 then iJ (v*64+d%64) r else -1
def lead (n:Nat) (c:Int):Int:=
 if n=1/\c<128 then c else if n=2/\c / 32=6 then c%32 else if n=3/\c / 16=14 then c%16 else if n=4/\c / 8=30 then c%8 else -1
def lv (s:List Int) (n:Nat):Int:=
 if s.length<n then -1 else if lead n (s[0]?.getD 0)<0 then -1 else iJ (lead n (s[0]?.getD 0)) ((s.drop 1).take (n - 1))
def hit (s:List Int) (n:Nat):Bool:=decide (0<=lv s n)&&(cK (lv s n)==(n:Int))
def aL (s:List Int):Nat:=if hit s 1 then 1 else if hit s 2 then 2 else if hit s 3 then 3 else if hit s 4 then 4 else 0
def pts:Nat->List Int->List Int
 | 0,_=>[]
 | f+1,s=>if s=[] then [] else if aL s=0 then [] else lv s (aL s)::pts f (s.drop (aL s))
def err:Nat->List Int->Nat->Option Nat
 | 0,_,_=>none
 | f+1,s,k=>if s=[] then none else if aL s=0 then some k else err f (s.drop (aL s)) (k+aL s)
def eS (bs:List Int):List Int × Int × Int:=
 match err bs.length bs 0 with
 | none=>(pts bs.length bs,0,0)
 | some k=>([],2,(k:Int))
def aI (bs:List Int):Int:=if (eS bs).2.1=0 then ((eS bs).1.length:Int) else -1
theorem aBY (f:Nat):pts f []=[]:=by cases f<;>simp [pts]
theorem aE7 (f k:Nat):err f [] k=none:=by cases f<;>simp [err]
theorem aCh {f:Nat} {s:List Int} (y:s≠[]) (h:aL s≠0):pts (f+1) s=lv s (aL s)::pts f (s.drop (aL s)):=by simp [pts,y,h]
theorem zO {f k:Nat} {s:List Int} (y:s≠[]) (h:aL s≠0):err (f+1) s k=err f (s.drop (aL s)) (k+aL s):=by simp [err,y,h]
theorem aBX {f k:Nat} {s:List Int} (y:s≠[]) (h:aL s=0):err (f+1) s k=some k:=by simp [err,y,h]
theorem aFp (f:Nat):∀ s:List Int,(pts f s).length<=f:=by
 induction f with
 | zero=>intro s;simp [pts]
 | succ f ih=>
   intro s;unfold pts
   split
   ·simp
   ·split
    ·simp
    ·have:=ih (s.drop (aL s));simp only [List.length_cons];omega
theorem uO (h:List Int):(eS h).1.length<=h.length:=by
 unfold eS;split
 ·exact aFp _ _
 ·simp
theorem xL {y:List Int} (h:err y.length y 0=none):eS y=(pts y.length y,0,0):=by unfold eS;rw [h]
theorem yR {y:List Int} {k:Nat} (h:err y.length y 0=some k):eS y=([],2,(k:Int)):=by unfold eS;rw [h]
theorem xY {s:List Int} {n:Nat} (h:hit s n=true):n<=s.length:=by
 simp only [hit,Bool.and_eq_true,decide_eq_true_eq] at h;have y:=h.1;unfold lv at y
 split at y
 ·omega
 ·omega
theorem tQ (s:List Int):aL s<=s.length:=by
 unfold aL
 split
 ·exact xY ‹_›
 ·split
  ·exact xY ‹_›
  ·split
   ·exact xY ‹_›
   ·split
    ·exact xY ‹_›
    ·omega
theorem aET (s:List Int):aL s<=4:=by
 unfold aL;split<;>(try split)<;>(try split)<;>(try split)<;>omega
def Mid (bs acc:List Int) (k:Nat):Prop:=k<=bs.length/\acc.length<=k/\∃ f,bs.length - k<=f/\acc++pts f (bs.drop k)=pts bs.length bs/\err f (bs.drop k) k=err bs.length bs 0
theorem Mid.start (h:List Int):Mid h [] 0:=⟨Nat.zero_le _,Nat.le_refl _,h.length,by omega,by simp,by simp⟩
theorem Mid.step {y A:List Int} {k:Nat} (h:Mid y A k) (S:k<y.length) (M:aL (y.drop k)≠0) :
  Mid y (A++[lv (y.drop k) (aL (y.drop k))]) (k+aL (y.drop k)):=by
 obtain ⟨O,U,f,X,G,D⟩:=h;have J:y.drop k≠[]:=(by rw [ne_eq,List.drop_eq_nil_iff];omega);have N:=tQ (y.drop k);rw [List.length_drop] at N;obtain ⟨E,rfl⟩:∃ E,f=E+1:=⟨f - 1,by omega⟩;rw [aCh J M] at G;rw [zO J M] at D;rw [List.drop_drop] at G D;refine ⟨by omega,by simp only [List.length_append,List.length_singleton];omega,E,by omega,?_,?_⟩
 ·rw [<- G];simp
 ·exact D
theorem Mid.bad {y A:List Int} {k:Nat} (h:Mid y A k) (O:k<y.length) (J:aL (y.drop k)=0):eS y=([],2,(k:Int)):=by
 obtain ⟨N,S,f,U,M,D⟩:=h;have G:y.drop k≠[]:=(by rw [ne_eq,List.drop_eq_nil_iff];omega);obtain ⟨E,rfl⟩:∃ E,f=E+1:=⟨f - 1,by omega⟩;rw [aBX G J] at D;exact yR D.symm
theorem Mid.done {A y:List Int} {k:Nat} (h:Mid A y k) (J:¬ k<A.length):eS A=(y,0,0):=by
 obtain ⟨G,M,f,N,E,D⟩:=h;rw [List.drop_eq_nil_of_le (by omega),aBY] at E;rw [List.drop_eq_nil_of_le (by omega),aE7] at D;rw [xL D.symm,<- E];simp
theorem oN (h:List Int) (k j:Nat):(h.drop k)[j]?.getD 0=h[k+j]?.getD 0:=by simp [List.getElem?_drop]
theorem eC {s:List Int} {n k:Nat} {x:Int} (y:k<n) (h:n<=s.length) :
  iJ x ((s.drop k).take (n - k))=if s[k]?.getD 0 / 64=2 then iJ (x*64+s[k]?.getD 0%64) ((s.drop (k+1)).take (n - (k+1))) else -1:=by
 rw [List.drop_eq_getElem_cons (by omega),show n - k=(n - (k+1))+1 by omega,List.take_succ_cons,iJ];simp [show k<s.length by omega]
theorem yW {s:List Int} {n:Nat} (h:s.length<n):lv s n = -1:=by simp [lv,h]
theorem aBI {s:List Int} {n:Nat} (h:n<=s.length) (y:lead n (s[0]?.getD 0)<0):lv s n = -1:=by
 rw [lv,if_neg (by omega),if_pos y]
theorem jL {s:List Int} {n:Nat} (h:n<=s.length) (y:0<=lead n (s[0]?.getD 0)):lv s n=iJ (lead n (s[0]?.getD 0)) ((s.drop 1).take (n - 1)):=by
 rw [lv,if_neg (by omega),if_neg (by omega)]
theorem lC (c:Int) (h:c<128):lead 1 c=c:=by simp [lead,h]
theorem zX (c:Int) (h:c / 32=6):lead 2 c=c%32:=by simp [lead,h]
theorem sK (c:Int) (h:c / 16=14):lead 3 c=c%16:=by simp [lead,h]
theorem wG (c:Int) (h:c / 8=30):lead 4 c=c%8:=by simp [lead,h]
theorem kP (n:Nat) (c:Int) (h:¬ (n=1/\c<128)) (y:¬ (n=2/\c / 32=6)) (D:¬ (n=3/\c / 16=14)) (A:¬ (n=4/\c / 8=30)):lead n c = -1:=by
 simp only [lead,if_neg h,if_neg y,if_neg D,if_neg A]
theorem aAH (a:Option Addr) (h cap k n:Nat) (w:World) (E:h<=4194304) (D:k<h) (y:n<=4) (A:h<k+n) :
  Calls prog 60 #[.slice a h cap,.int .i64 k,.int .i64 n] w fun e w'=>e=.returned (.int .i64 (-1))/\w=w':=by
 go_enter func60,ntmps60
 go_wp2;go_ret;exact ⟨rfl,rfl⟩
theorem aD6 (b off h cap k n:Nat) (c:Int) (w:World) (N:h<=4194304) (J:0<=c) (D:c<128) (A:w.cell? ⟨b,off+k,none⟩=some (.int .u8 c)) (M:k+n<=h) (E:((n:Int)==1)=true) :
  Calls prog 60 #[.slice (some ⟨b,off,none⟩) h cap,.int .i64 k,.int .i64 n] w fun e w'=>e=.returned (.int .i64 c)/\w=w':=by
 have y:n=1:=(by simp at E;omega);have G:k<h:=(by omega);clear y
 go_enter func60,ntmps60
 go_wp2;go_ret;exact ⟨rfl,rfl⟩
theorem aEd (b off h cap k n:Nat) (c:Int) (w:World) (hm:h<=4194304) (a5:0<=c) (Y:c<=255) (Z:w.cell? ⟨b,off+k,none⟩=some (.int .u8 c)) (hs:k+n<=h) (h1:1<=n) (h4:n<=4)
  (A:¬ (n=1/\c<128)) (E:¬ (n=2/\c / 32=6)) (D:¬ (n=3/\c / 16=14)) (y:¬ (n=4/\c / 8=30)) :
  Calls prog 60 #[.slice (some ⟨b,off,none⟩) h cap,.int .i64 k,.int .i64 n] w fun e w'=>e=.returned (.int .i64 (-1))/\w=w':=by
 have a4:k<h:=by omega
 by_cases G:n=1
 ·have N:((n:Int)==1)=true:=(by simp;omega);have U:((n:Int)==2)=false:=(by simp;omega);have M:((n:Int)==3)=false:=(by simp;omega);have J:((n:Int)==4)=false:=(by simp;omega);have O:128<=c:=(by omega);clear A E D y G
  go_enter func60,ntmps60
  go_wp2;go_ret;exact ⟨rfl,rfl⟩
 ·by_cases S:n=2
  ·have N:((n:Int)==1)=false:=(by simp;omega);have U:((n:Int)==2)=true:=(by simp;omega);have M:((n:Int)==3)=false:=(by simp;omega);have J:((n:Int)==4)=false:=(by simp;omega);have O:(c / 32==6)=false:=(by simp;omega);clear A E D y G S
   go_enter func60,ntmps60
   go_wp2;go_ret;exact ⟨rfl,rfl⟩
  ·by_cases X:n=3
   ·have N:((n:Int)==1)=false:=(by simp;omega);have U:((n:Int)==2)=false:=(by simp;omega);have M:((n:Int)==3)=true:=(by simp;omega);have J:((n:Int)==4)=false:=(by simp;omega);have O:(c / 16==14)=false:=(by simp;omega);clear A E D y G S X
    go_enter func60,ntmps60
    go_wp2;go_ret;exact ⟨rfl,rfl⟩
   ·have N:((n:Int)==1)=false:=(by simp;omega);have U:((n:Int)==2)=false:=(by simp;omega);have M:((n:Int)==3)=false:=(by simp;omega);have J:((n:Int)==4)=true:=(by simp;omega);have O:(c / 8==30)=false:=(by simp;omega);clear A E D y G S X
    go_enter func60,ntmps60
    go_wp2;go_ret;exact ⟨rfl,rfl⟩
theorem qT (b off cap k n:Nat) (zs:List Int) (c:Int) (w:World) (hm:zs.length<=4194304) (a8:Bys zs) (c0:c=zs[k]?.getD 0) (hs:k+n<=zs.length) (h2:2<=n) (h4:n<=4)
  (hc:∀ j,j<zs.length->w.cell? ⟨b,off+j,none⟩=some (.int .u8 (zs[j]?.getD 0)))
  (c1:(n=2/\c / 32=6)\/(n=3/\c / 16=14)\/(n=4/\c / 8=30)) :
  Calls prog 60 #[.slice (some ⟨b,off,none⟩) zs.length cap,.int .i64 k,.int .i64 n] w fun e w'=>e=.returned (.int .i64 (iJ (lead n c) (((zs.drop k).drop 1).take (n - 1))))/\w=w':=by
 have d2:k<zs.length:=(by omega);have d1:=hc k d2;have b0:=a8.get k;rw [<- c0] at d1 b0;clear c0;obtain ⟨d8,d7⟩:=b0;have HC:Hid (∀ j,j<zs.length->w.cell? ⟨b,off+j,none⟩=some (.int .u8 (zs[j]?.getD 0))):=hc;clear hc;have t1:((n:Int)==1)=false:=(by simp;omega);obtain ⟨x0,A⟩:∃ x0,x0=lead n c:=⟨_,rfl⟩;rw [<- A];obtain ⟨R,hR⟩:∃ R,R=iJ x0 (((zs.drop k).drop 1).take (n - 1)):=⟨_,rfl⟩;rw [<- hR];have HR:Hid (R=iJ x0 (((zs.drop k).drop 1).take (n - 1))):=hR;clear hR;rcases c1 with ⟨N,hd⟩ | ⟨N,hd⟩ | ⟨N,hd⟩
 ·have a6:x0=c%32:=(by rw [A,N];exact zX c hd);have t2:((n:Int)==2)=true:=(by simp;omega);have t3:((n:Int)==3)=false:=(by simp;omega);have t4:((n:Int)==4)=false:=(by simp;omega);have b8:(c / 32==6)=true:=(by simp [hd]);clear hd A N;subst a6
  go_enter func60,ntmps60
  go_wp2
  go_loop [8,9] (fun v i=>∃ (j:Nat) (x:Int),1<=j/\j<=n/\i=.int .i64 j/\v=.int .i64 x/\0<=x/\(j=1->x<32)/\(j=2->x<2048)/\(j=3->x<131072)/\(j=4->x<8388608)/\Hid (R=iJ x (((zs.drop k).drop j).take (n - j))))
   (fun _ i=>n - (intOf i).toNat)
  case atStart=>exact ⟨1,_,by omega,by omega,rfl,rfl,by omega,fun _=>by omega,fun _=>by omega,fun _=>by omega,fun _=>by omega,HR⟩
  case round=>
   obtain ⟨j,x,c4,b9,rfl,rfl,A,O,X,S,b4,U⟩:=hrel;have c7:x<8388608:=by omega
   by_cases a4:j<n
   ·have h:=eC (s:=zs.drop k) (x:=x) a4 (by rw [List.length_drop];omega);rw [oN] at h;have Z:=HC.out (k+j) (by omega);have J:=a8.get (k+j);have D:j=1->x<32:=O;have G:j=2->x<2048:=X;have M:j=3->x<131072:=S;generalize zs[k+j]?.getD 0=d at h Z J;obtain ⟨c6,b7⟩:=J;have b6:k+j<zs.length:=by omega
    by_cases y:d / 64=2
    ·rw [if_pos y] at h;have E:Hid (R=iJ (x*64+d%64) (((zs.drop k).drop (j+1)).take (n - (j+1)))):=(by unfold Hid;rw [U.out];exact h);have Y:(d / 64 != 2)=false:=(by simp [y]);have q1:j+1=1->x*64+d%64<32:=(by omega);have q2:j+1=2->x*64+d%64<2048:=(by omega);have q3:j+1=3->x*64+d%64<131072:=(by omega);have q4:j+1=4->x*64+d%64<8388608:=(by omega);clear h y O X S b4 D G M;go_wp2
     go_round
     case rel=>exact ⟨j+1,_,by omega,by omega,by go_num,rfl,by omega,q1,q2,q3,q4,E.out⟩
     case measure=>simp [intOf];omega
    ·rw [if_neg y] at h;have E:Hid (R = -1):=(by unfold Hid;rw [U.out];exact h);have Y:(d / 64 != 2)=true:=(by simp [y]);clear h y O X S b4 D G M;go_wp2;go_ret;exact ⟨by rw [E.out];rfl,rfl⟩
   ·have E:Hid (R=x):=by
     unfold Hid;rw [U.out,show n - j=0 by omega];simp [iJ]
    clear O X S b4 U;go_wp2;go_ret;exact ⟨by rw [E.out];rfl,rfl⟩
 ·have a6:x0=c%16:=(by rw [A,N];exact sK c hd);have t2:((n:Int)==2)=false:=(by simp;omega);have t3:((n:Int)==3)=true:=(by simp;omega);have t4:((n:Int)==4)=false:=(by simp;omega);have b8:(c / 16==14)=true:=(by simp [hd]);clear hd A N;subst a6
  go_enter func60,ntmps60
  go_wp2
  go_loop [8,9] (fun v i=>∃ (j:Nat) (x:Int),1<=j/\j<=n/\i=.int .i64 j/\v=.int .i64 x/\0<=x/\(j=1->x<32)/\(j=2->x<2048)/\(j=3->x<131072)/\(j=4->x<8388608)/\Hid (R=iJ x (((zs.drop k).drop j).take (n - j))))
   (fun _ i=>n - (intOf i).toNat)
  case atStart=>exact ⟨1,_,by omega,by omega,rfl,rfl,by omega,fun _=>by omega,fun _=>by omega,fun _=>by omega,fun _=>by omega,HR⟩
  case round=>
   obtain ⟨j,x,c4,b9,rfl,rfl,A,O,X,S,b4,U⟩:=hrel;have c7:x<8388608:=by omega
   by_cases a4:j<n
   ·have h:=eC (s:=zs.drop k) (x:=x) a4 (by rw [List.length_drop];omega);rw [oN] at h;have Z:=HC.out (k+j) (by omega);have J:=a8.get (k+j);have D:j=1->x<32:=O;have G:j=2->x<2048:=X;have M:j=3->x<131072:=S;generalize zs[k+j]?.getD 0=d at h Z J;obtain ⟨c6,b7⟩:=J;have b6:k+j<zs.length:=by omega
    by_cases y:d / 64=2
    ·rw [if_pos y] at h;have E:Hid (R=iJ (x*64+d%64) (((zs.drop k).drop (j+1)).take (n - (j+1)))):=(by unfold Hid;rw [U.out];exact h);have Y:(d / 64 != 2)=false:=(by simp [y]);have q1:j+1=1->x*64+d%64<32:=(by omega);have q2:j+1=2->x*64+d%64<2048:=(by omega);have q3:j+1=3->x*64+d%64<131072:=(by omega);have q4:j+1=4->x*64+d%64<8388608:=(by omega);clear h y O X S b4 D G M;go_wp2
     go_round
     case rel=>exact ⟨j+1,_,by omega,by omega,by go_num,rfl,by omega,q1,q2,q3,q4,E.out⟩
     case measure=>simp [intOf];omega
    ·rw [if_neg y] at h;have E:Hid (R = -1):=(by unfold Hid;rw [U.out];exact h);have Y:(d / 64 != 2)=true:=(by simp [y]);clear h y O X S b4 D G M;go_wp2;go_ret;exact ⟨by rw [E.out];rfl,rfl⟩
   ·have E:Hid (R=x):=by
     unfold Hid;rw [U.out,show n - j=0 by omega];simp [iJ]
    clear O X S b4 U;go_wp2;go_ret;exact ⟨by rw [E.out];rfl,rfl⟩
 ·have a6:x0=c%8:=(by rw [A,N];exact wG c hd);have t2:((n:Int)==2)=false:=(by simp;omega);have t3:((n:Int)==3)=false:=(by simp;omega);have t4:((n:Int)==4)=true:=(by simp;omega);have b8:(c / 8==30)=true:=(by simp [hd]);clear hd A N;subst a6
  go_enter func60,ntmps60
  go_wp2
  go_loop [8,9] (fun v i=>∃ (j:Nat) (x:Int),1<=j/\j<=n/\i=.int .i64 j/\v=.int .i64 x/\0<=x/\(j=1->x<32)/\(j=2->x<2048)/\(j=3->x<131072)/\(j=4->x<8388608)/\Hid (R=iJ x (((zs.drop k).drop j).take (n - j))))
   (fun _ i=>n - (intOf i).toNat)
  case atStart=>exact ⟨1,_,by omega,by omega,rfl,rfl,by omega,fun _=>by omega,fun _=>by omega,fun _=>by omega,fun _=>by omega,HR⟩
  case round=>
   obtain ⟨j,x,c4,b9,rfl,rfl,A,O,X,S,b4,U⟩:=hrel;have c7:x<8388608:=by omega
   by_cases a4:j<n
   ·have h:=eC (s:=zs.drop k) (x:=x) a4 (by rw [List.length_drop];omega);rw [oN] at h;have Z:=HC.out (k+j) (by omega);have J:=a8.get (k+j);have D:j=1->x<32:=O;have G:j=2->x<2048:=X;have M:j=3->x<131072:=S;generalize zs[k+j]?.getD 0=d at h Z J;obtain ⟨c6,b7⟩:=J;have b6:k+j<zs.length:=by omega
    by_cases y:d / 64=2
    ·rw [if_pos y] at h;have E:Hid (R=iJ (x*64+d%64) (((zs.drop k).drop (j+1)).take (n - (j+1)))):=(by unfold Hid;rw [U.out];exact h);have Y:(d / 64 != 2)=false:=(by simp [y]);have q1:j+1=1->x*64+d%64<32:=(by omega);have q2:j+1=2->x*64+d%64<2048:=(by omega);have q3:j+1=3->x*64+d%64<131072:=(by omega);have q4:j+1=4->x*64+d%64<8388608:=(by omega);clear h y O X S b4 D G M;go_wp2
     go_round
     case rel=>exact ⟨j+1,_,by omega,by omega,by go_num,rfl,by omega,q1,q2,q3,q4,E.out⟩
     case measure=>simp [intOf];omega
    ·rw [if_neg y] at h;have E:Hid (R = -1):=(by unfold Hid;rw [U.out];exact h);have Y:(d / 64 != 2)=true:=(by simp [y]);clear h y O X S b4 D G M;go_wp2;go_ret;exact ⟨by rw [E.out];rfl,rfl⟩
   ·have E:Hid (R=x):=by
     unfold Hid;rw [U.out,show n - j=0 by omega];simp [iJ]
    clear O X S b4 U;go_wp2;go_ret;exact ⟨by rw [E.out];rfl,rfl⟩
theorem aC3 (v:Value) (zs:List Int) (k n:Nat) (w:World) (hv:RdB w.heap.size w v zs) (D:Bys zs) (G:zs.length<=4194304) (Y:k<zs.length) (h1:1<=n) (M:n<=4) :
  Calls prog 60 #[v,.int .i64 k,.int .i64 n] w fun e w'=>e=.returned (.int .i64 (lv (zs.drop k) n))/\w=w':=by
 obtain ⟨a,cap,rfl,hr⟩:=hv;have a4:(zs.drop k).length=zs.length - k:=List.length_drop
 by_cases hs:zs.length<k+n
 ·rw [yW (by omega)];exact aAH a zs.length cap k n w G Y M hs
 ·obtain ⟨b,off,rfl,hb,X⟩:=hr (fun h=>by simp [h] at Y);have y:(zs.drop k)[0]?.getD 0=zs[k]?.getD 0:=(by rw [oN];rfl);have A:=D.get k;have O:=X k Y
  by_cases Z:n=1/\zs[k]?.getD 0<128
  ·obtain ⟨rfl,E⟩:=Z;rw [jL (by omega) (by rw [y,lC _ E];exact A.1),y,lC _ E];exact aD6 b off zs.length cap k 1 _ w G A.1 E O (by omega) rfl
  ·by_cases U:n=2/\zs[k]?.getD 0 / 32=6
   ·have S:lead n (zs[k]?.getD 0)=zs[k]?.getD 0%32:=(by rw [U.1];exact zX _ U.2);rw [jL (by omega) (by rw [y,S];omega),y];exact qT b off cap k n zs _ w G D rfl (by omega) (by omega) M X (.inl U)
   ·by_cases N:n=3/\zs[k]?.getD 0 / 16=14
    ·have S:lead n (zs[k]?.getD 0)=zs[k]?.getD 0%16:=(by rw [N.1];exact sK _ N.2);rw [jL (by omega) (by rw [y,S];omega),y];exact qT b off cap k n zs _ w G D rfl (by omega) (by omega) M X (.inr (.inl N))
    ·by_cases J:n=4/\zs[k]?.getD 0 / 8=30
     ·have S:lead n (zs[k]?.getD 0)=zs[k]?.getD 0%8:=(by rw [J.1];exact wG _ J.2);rw [jL (by omega) (by rw [y,S];omega),y];exact qT b off cap k n zs _ w G D rfl (by omega) (by omega) M X (.inr (.inr J))
     ·rw [aBI (by omega) (by rw [y,kP _ _ Z U N J];omega)];exact aEd b off zs.length cap k n _ w G A.1 A.2 O (by omega) h1 M Z U N J
theorem mJ (p:Int) (w:World):Calls prog 61 #[.int .i64 p] w fun e w'=>e=.returned (.int .i64 (cK p))/\w=w':=by
 by_cases E:p<0
 ·have h:Hid (cK p=0):=by simp [Hid,cK,bW];omega
  go_enter func61,ntmps61
  go_wp2;go_ret;exact ⟨by rw [h.out];rfl,rfl⟩
 ·by_cases G:1114111<p
  ·have h:Hid (cK p=0):=by simp [Hid,cK,bW];omega
   go_enter func61,ntmps61
   go_wp2;go_ret;exact ⟨by rw [h.out];rfl,rfl⟩
  ·by_cases J:p<55296
   ·have y:bW p=true:=by simp [bW];omega
    by_cases D:p<128
    ·have h:Hid (cK p=1):=(by simp [Hid,cK,y,D]);clear y
     go_enter func61,ntmps61
     go_wp2;go_ret;exact ⟨by rw [h.out];rfl,rfl⟩
    ·by_cases A:p<2048
     ·have h:Hid (cK p=2):=(by simp [Hid,cK,y,D,A]);clear y
      go_enter func61,ntmps61
      go_wp2;go_ret;exact ⟨by rw [h.out];rfl,rfl⟩
     ·have h:Hid (cK p=3):=(by simp [Hid,cK,y,D,A];omega);clear y
      go_enter func61,ntmps61
      go_wp2;go_ret;exact ⟨by rw [h.out];rfl,rfl⟩
   ·by_cases D:p<=57343
    ·have h:Hid (cK p=0):=by simp [Hid,cK,bW];omega
     go_enter func61,ntmps61
     go_wp2;go_ret;exact ⟨by rw [h.out];rfl,rfl⟩
    ·have y:bW p=true:=by simp [bW];omega
     by_cases A:p<65536
     ·have h:Hid (cK p=3):=(by simp [Hid,cK,y,A];omega);clear y
      go_enter func61,ntmps61
      go_wp2;go_ret;exact ⟨by rw [h.out];rfl,rfl⟩
     ·have h:Hid (cK p=4):=(by simp [Hid,cK,y,A];omega);clear y
      go_enter func61,ntmps61
      go_wp2;go_ret;exact ⟨by rw [h.out];rfl,rfl⟩
structure Cm where
 b:Bool
 t:List Int
theorem Rd.wideC {q:IntKind} {B B':Nat} {w:World} {v:Value} {zs:List Int} (h:Rd q B w v zs) (G:B<=B'):Rd q B' w v zs:=by
 obtain ⟨a,cap,hv,D⟩:=h;refine ⟨a,cap,hv,fun A=>?_⟩;obtain ⟨b,off,E,J,y⟩:=D A;exact ⟨b,off,E,by omega,y⟩
structure aGA (B:Nat) (w:World) (b o:Nat) (p:Cm) (tv:Value):Prop where
 k:w.cell? ⟨b,o,none⟩=some (.bool p.b)
 t:w.cell? ⟨b,o+1,none⟩=some tv
 rd:RdB B w tv p.t
 sl:Sl tv p.t.length
def RdC (B:Nat) (w:World) (v:Value) (cs:List Cm):Prop:=
 ∃ a cap,v=.slice a cs.length cap/\cs.length<=cap/\cap<=maxLen/\(cs≠[]->∃ b off,a=some ⟨b,off,none⟩/\b<B/\∀ j p,cs[j]?=some p->∃ tv,aGA B w b (off+j*2) p tv)
theorem aGA.beside {B:Nat} {w w':World} {b o:Nat} {p:Cm} {tv:Value} {y:Option Nat} (h:aGA B w b o p tv) (G:b<B) (A:w.grownBy w' y) (E:∀ k,y=some k->B<=k):aGA B w' b o p tv:=
 have D:some b≠y:=fun e=>by have:=E b e.symm;omega
 ⟨A.cell h.k D,A.cell h.t D,h.rd.beside A E,h.sl⟩
theorem RdC.beside {B:Nat} {w w':World} {v:Value} {A:List Cm} {y:Option Nat} (h:RdC B w v A) (S:w.grownBy w' y) (M:∀ k,y=some k->B<=k):RdC B w' v A:=by
 obtain ⟨a,cap,hv,J,Y,O⟩:=h;refine ⟨a,cap,hv,J,Y,fun G=>?_⟩;obtain ⟨b,off,U,D,E⟩:=O G;refine ⟨b,off,U,D,fun j p N=>?_⟩;obtain ⟨tv,X⟩:=E j p N;exact ⟨tv,X.beside D S M⟩
theorem RdC.K {B:Nat} {w w':World} {v:Value} {y:List Cm} (h:RdC B w v y) (A:w.grownBy w' none):RdC B w' v y:=h.beside A (fun _ e=>by cases e)
theorem RdC.wide {B B':Nat} {w:World} {v:Value} {A:List Cm} (h:RdC B w v A) (M:B<=B'):RdC B' w v A:=by
 obtain ⟨a,cap,hv,G,S,N⟩:=h;refine ⟨a,cap,hv,G,S,fun E=>?_⟩;obtain ⟨b,off,O,U,D⟩:=N E;refine ⟨b,off,O,by omega,fun j p J=>?_⟩;obtain ⟨tv,y⟩:=D j p J;exact ⟨tv,⟨y.k,y.t,y.rd.wideC M,y.sl⟩⟩
theorem RdC.at {B:Nat} {w:World} {v:Value} {y:List Cm} (h:RdC B w v y) (j:Nat) (A:j<y.length) :
  ∃ b off cap tv,v=.slice (some ⟨b,off,none⟩) y.length cap/\b<B/\aGA B w b (off+j*2) y[j] tv:=by
 obtain ⟨a,cap,hv,N,O,E⟩:=h;obtain ⟨b,off,J,M,D⟩:=E (fun e=>by rw [e] at A;simp at A);obtain ⟨tv,G⟩:=D j y[j] (by simp [A]);exact ⟨b,off,cap,tv,by rw [hv,J],M,G⟩
theorem RdC.sl {B:Nat} {w:World} {v:Value} {y:List Cm} (h:RdC B w v y):Sl v y.length:=by
 obtain ⟨a,cap,hv,A,D,_⟩:=h;exact ⟨a,cap,hv,A,D⟩
structure Nod where
 k:Int
 L:List Cm
 mem:Bool
 key:List Int
 X:List Int
 U:List Int
 C:Int
 tail:List Cm
structure aA0 (B:Nat) (w:World) (b o:Nat) (p:Nod) (lv kv xv uv tv:Value):Prop where
 k:w.cell? ⟨b,o,none⟩=some (.int .i64 p.k)
 L:w.cell? ⟨b,o+1,none⟩=some lv
 mem:w.cell? ⟨b,o+2,none⟩=some (.bool p.mem)
 key:w.cell? ⟨b,o+3,none⟩=some kv
 X:w.cell? ⟨b,o+4,none⟩=some xv
 U:w.cell? ⟨b,o+5,none⟩=some uv
 C:w.cell? ⟨b,o+6,none⟩=some (.int .i64 p.C)
 tail:w.cell? ⟨b,o+7,none⟩=some tv
 rl:RdC B w lv p.L
 rk:RdI B w kv p.key
 sk:Sl kv p.key.length
 rx:RdB B w xv p.X
 sx:Sl xv p.X.length
 ru:RdI B w uv p.U
 su:Sl uv p.U.length
 rt:RdC B w tv p.tail
def RdN (B:Nat) (w:World) (v:Value) (ns:List Nod):Prop:=
 ∃ a cap,v=.slice a ns.length cap/\ns.length<=cap/\cap<=maxLen/\(ns≠[]->∃ b off,a=some ⟨b,off,none⟩/\b<B/\∀ j p,ns[j]?=some p->∃ lv kv xv uv tv,aA0 B w b (off+j*8) p lv kv xv uv tv)
theorem aA0.beside {B:Nat} {w w':World} {b o:Nat} {p:Nod} {lv J M G tv:Value} {D:Option Nat} (h:aA0 B w b o p lv J M G tv) (N:b<B) (y:w.grownBy w' D) (E:∀ k,D=some k->B<=k):aA0 B w' b o p lv J M G tv:=
 have A:some b≠D:=fun e=>by have:=E b e.symm;omega
 ⟨y.cell h.k A,y.cell h.L A,y.cell h.mem A,y.cell h.key A,y.cell h.X A,y.cell h.U A,y.cell h.C A,y.cell h.tail A,
  h.rl.beside y E,h.rk.beside y E,h.sk,h.rx.beside y E,h.sx,h.ru.beside y E,h.su,h.rt.beside y E⟩
theorem RdN.beside {B:Nat} {w w':World} {v:Value} {A:List Nod} {y:Option Nat} (h:RdN B w v A) (X:w.grownBy w' y) (O:∀ k,y=some k->B<=k):RdN B w' v A:=by
 obtain ⟨a,cap,hv,N,h2,U⟩:=h;refine ⟨a,cap,hv,N,h2,fun M=>?_⟩;obtain ⟨b,off,Y,D,J⟩:=U M;refine ⟨b,off,Y,D,fun j p S=>?_⟩;obtain ⟨lv,G,xv,E,tv,Z⟩:=J j p S;exact ⟨lv,G,xv,E,tv,Z.beside D X O⟩
theorem RdN.K {B:Nat} {w w':World} {v:Value} {y:List Nod} (h:RdN B w v y) (A:w.grownBy w' none):RdN B w' v y:=h.beside A (fun _ e=>by cases e)
theorem RdN.wide {B B':Nat} {w:World} {v:Value} {A:List Nod} (h:RdN B w v A) (y:B<=B'):RdN B' w v A:=by
 obtain ⟨a,cap,hv,M,Y,O⟩:=h;refine ⟨a,cap,hv,M,Y,fun J=>?_⟩;obtain ⟨b,off,S,hb,G⟩:=O J;refine ⟨b,off,S,by omega,fun j p N=>?_⟩;obtain ⟨lv,E,Z,D,tv,t⟩:=G j p N;exact ⟨lv,E,Z,D,tv,t.k,t.L,t.mem,t.key,t.X,t.U,t.C,t.tail,t.rl.wide y,t.rk.wideC y,t.sk,t.rx.wideC y,t.sx,t.ru.wideC y,t.su,t.rt.wide y⟩
theorem RdN.at {B:Nat} {w:World} {v:Value} {y:List Nod} (h:RdN B w v y) (j:Nat) (G:j<y.length) :
  ∃ b off cap lv D E A tv,v=.slice (some ⟨b,off,none⟩) y.length cap/\b<B/\aA0 B w b (off+j*8) y[j] lv D E A tv:=by
 obtain ⟨a,cap,hv,U,X,M⟩:=h;obtain ⟨b,off,O,S,J⟩:=M (fun e=>by rw [e] at G;simp at G);obtain ⟨lv,D,E,A,tv,N⟩:=J j y[j] (by simp [G]);exact ⟨b,off,cap,lv,D,E,A,tv,by rw [hv,O],S,N⟩
theorem aHo {s:List Int} {m:Nat} (S:1<=m) (O:m<=4) (y:∀ j,1<=j->j<m->hit s j=false) (h:hit s m=true):aL s=m:=by
 unfold aL
 by_cases J:m=1
 ·subst J;simp [h]
 ·have A:=y 1 (by omega) (by omega)
  by_cases M:m=2
  ·subst M;simp [h,A]
  ·have D:=y 2 (by omega) (by omega)
   by_cases G:m=3
   ·subst G;simp [h,A,D]
   ·have N:=y 3 (by omega) (by omega);have E:m=4:=(by omega);subst E;simp [h,A,D,N]
theorem aEG {s:List Int} {m:Nat} (y:4<m) (h:∀ j,1<=j->j<m->hit s j=false):aL s=0:=by
 unfold aL;simp [h 1 (by omega) (by omega),h 2 (by omega) (by omega),h 3 (by omega) (by omega),h 4 (by omega) (by omega)]
theorem aDK {s:List Int} {m:Nat} (y:∀ j,1<=j->j<m->hit s j=false) (h:hit s m=false):∀ j,1<=j->j<m+1->hit s j=false:=by
 intro j A D
 by_cases e:j=m
 ·rw [e];exact h
 ·exact y j A (by omega)
theorem fK (v:Value) (zs:List Int) (w:World) (hv:RdB w.heap.size w v zs) (b4:Bys zs) (hn:zs.length<=1048576) :
  Calls prog 27 #[v] w fun e w'=>∃ v',e=.returned (.tuple #[v',.int .i64 (eS zs).2.1,.int .i64 (eS zs).2.2])/\OwI w.heap.size w' v' (eS zs).1/\w.grownBy w' none:=by
 obtain ⟨i0,hi,b2,a9,b1⟩:=info_parts aBg;obtain ⟨a,cap,rfl,hr⟩:=hv;have HV:Hid (RdB w.heap.size w (.slice a zs.length cap) zs):=⟨a,cap,rfl,hr⟩;clear hr
 go_enter func27,ntmps27
 go_wp2
 go_loopw [5,6] (fun v i wr=>∃ (k:Nat) (A:List Int),i=.int .i64 k/\OwI w.heap.size wr v A/\Mid zs A k/\Below w.heap.size w wr)
  (fun _ i _=>zs.length - (intOf i).toNat)
 case atStart=>exact ⟨0,[],rfl,World.ownsRow_nil _ _ _ _,Mid.start zs,Below.refl _ _⟩
 case round=>
  obtain ⟨k,A,rfl,E,D,G⟩:=hrel;have c1:=D.1;have c2:=D.2.1;have HM:Hid (Mid zs A k):=D;clear D
  by_cases U:k<zs.length
  ·obtain ⟨s,hs⟩:∃ s,s=zs.drop k:=⟨_,rfl⟩;have HS:Hid (s=zs.drop k):=hs;clear hs;have HR:Hid (RdB wr.heap.size wr (.slice a zs.length cap) zs):=HV.out.later (aC G);go_wp2
   go_loop [5,7,8] (fun o st i=>o=u5/\st=.int .i64 0/\∃ m:Nat,1<=m/\m<=5/\i=.int .i64 m/\Hid (∀ j,1<=j->j<m->hit s j=false))
    (fun _ _ i=>5 - (intOf i).toNat)
   case atStart=>exact ⟨rfl,rfl,1,by omega,by omega,rfl,fun j h1 h2=>by omega⟩
   case round=>
    obtain ⟨rfl,rfl,m,a5,c3,rfl,Z⟩:=hrel
    by_cases a6:m<=4
    ·have S:=aC3 _ zs k m wr HR.out b4 (by omega) U a5 a6;rw [<- HS.out] at S;have y:=S;clear S
     by_cases X:0<=lv s m
     ·cases hh:(cK (lv s m)==(m:Int))
      ·have O:Hid (∀ j,1<=j->j<m+1->hit s j=false):=aDK Z.out (by simp [hit,hh]);generalize lv s m=x at y X hh
       go_wp2_with (first
        | (go_at_call 60;refine y.mono ?_;rintro e w' ⟨rfl,rfl⟩)
        | (go_at_call 61;refine (mJ _ _).mono ?_;rintro e w' ⟨rfl,rfl⟩))
       go_round
       case rel=>exact ⟨rfl,rfl,m+1,by omega,by omega,by go_num,O⟩
       case measure=>simp [intOf];omega
      ·have Y:Hid (aL s=m):=aHo a5 a6 Z.out (by simp [hit,hh,X]);have b9:((m:Int)==0)=false:=by simp;omega
       have M:Hid (Mid zs (A++[lv s m]) (k+m)):=by
        have h:=HM.out.step U (by rw [<- HS.out,Y.out];omega);rw [<- HS.out,Y.out] at h;exact h
       have b8:k+m<=zs.length:=M.out.1;generalize lv s m=x at y X hh M
       go_wp2_with (first
        | (go_at_call 60;refine y.mono ?_;rintro e w' ⟨rfl,rfl⟩)
        | (go_at_call 61;refine (mJ _ _).mono ?_;rintro e w' ⟨rfl,rfl⟩)
        | (at_builtin;refine wpList_append_own _ rfl _ _ 33 rfl w.heap.size 3 i0 (.int .i64 0) 1 8 underlying33 hi b2 a9 b1 rfl (by decide) _ _ _ rfl (World.ownsRow.alloc E _) ⟨wr.heap.size,0,none⟩ 1 1 [.int .i64 x] rfl rfl (cell_one_new _ _ _) (by intro u hu;simp at hu;subst hu;rfl) (by unfold maxLen;omega) (by omega) (by have:=G.size;simp;omega) ?_;intro v' w1 J N _))
       have R:=eK (xs:=[x]) _ G.size E J (by simp) N;clear J N E y;go_wp2
       go_roundw
       case rel=>exact ⟨k+m,A++[x],by go_num,R.1,M.out,G.trans R.2⟩
       case measure=>simp [intOf];omega
     ·have O:Hid (∀ j,1<=j->j<m+1->hit s j=false):=aDK Z.out (by simp [hit];omega);generalize lv s m=x at y X;have c4:x<0:=by omega
      go_wp2_with (go_at_call 60;refine y.mono ?_;rintro e w' ⟨rfl,rfl⟩)
      go_round
      case rel=>exact ⟨rfl,rfl,m+1,by omega,by omega,by go_num,O⟩
      case measure=>simp [intOf];omega
    ·have Y:Hid (aL s=0):=aEG (by omega) Z.out
     have HD:Hid (eS zs=([],2,(k:Int))):=by
      refine HM.out.bad U ?_;rw [<- HS.out];exact Y.out
     go_wp2
     go_ret3
     exact ⟨_,by rw [HD.out];rfl,by rw [HD.out];exact World.ownsRow_nil _ _ _ _,aC G⟩
  ·have HD:Hid (eS zs=(A,0,0)):=HM.out.done U;go_wp2
   go_ret3
   exact ⟨_,by rw [HD.out];rfl,by rw [HD.out];exact E,aC G⟩
end Go.Proofs.YtmfehflibkokbaaGreatDoor
