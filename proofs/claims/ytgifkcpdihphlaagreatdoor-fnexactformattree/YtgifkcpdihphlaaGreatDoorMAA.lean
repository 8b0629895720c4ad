import Derived.Test.YtgifkcpdihphlaaGreatDoorProg
import Derived.WalkKit
import Derived.WalkSpells
import Derived.WalkLawsBesides
import Derived.Deep.QuietTactic
import Derived.BigQuiet
set_option maxHeartbeats 16000000
set_option maxRecDepth 100000
namespace Go.Proofs.YtgifkcpdihphlaaGreatDoor
open Tryz
open Go.RowKit
theorem lL:(prog.info? 5).map (fun i=>(i.zero,i.size,i.bytes))=some (some (.int .u8 0),1,1):=by kernel_rfl
theorem aAH:(prog.info? 3).map (fun i=>(i.zero,i.size,i.bytes))=some (some (.int .i64 0),1,8):=by kernel_rfl
def Rd (q:IntKind) (B:Nat) (w:World) (v:Value) (zs:List Int):Prop:=
 ∃ a cap,v=.slice a zs.length cap/\(zs≠[]->∃ b off,a=some ⟨b,off,none⟩/\b<B/\∀ j,j<zs.length->w.cell? ⟨b,off+j,none⟩=some (.int q (zs[j]?.getD 0)))
abbrev RdI (B:Nat) (w:World) (v:Value) (zs:List Int):Prop:=Rd .i64 B w v zs
abbrev RdB (B:Nat) (w:World) (v:Value) (zs:List Int):Prop:=Rd .u8 B w v zs
def Ow (q:IntKind) (t:TypeId) (B:Nat) (w:World) (v:Value) (zs:List Int):Prop:=w.ownsRow B t 1 v zs.length (zs.map (Value.int q))
abbrev OwI (B:Nat) (w:World) (v:Value) (zs:List Int):Prop:=Ow .i64 3 B w v zs
abbrev OwB (B:Nat) (w:World) (v:Value) (zs:List Int):Prop:=Ow .u8 5 B w v zs
theorem Ow.rd {q:IntKind} {t:TypeId} {B:Nat} {w:World} {v:Value} {zs:List Int} (h:Ow q t B w v zs):Rd q w.heap.size w v zs:=by
 rcases h.2 with ⟨hv,u⟩ | ⟨g,cap,A,hv,M,E,D,H,G,L⟩
 ·subst hv;refine ⟨_,0,by rw [u],fun J=>absurd (List.eq_nil_of_length_eq_zero u) J⟩
 ·subst hv;refine ⟨_,cap,rfl,fun _=>⟨g,0,rfl,(Array.getElem?_eq_some_iff.1 E).1,fun j y=>?_⟩⟩;have:=World.ownsRow.cellAt h j (by simpa using y);simp only [Nat.zero_add];rw [this];simp [y]
theorem Rd.later {q:IntKind} {B:Nat} {w w':World} {v:Value} {zs:List Int} (h:Rd q B w v zs) (A:w.grownBy w' none):Rd q w'.heap.size w' v zs:=by
 obtain ⟨a,cap,hv,G⟩:=h;refine ⟨a,cap,hv,fun D=>?_⟩;obtain ⟨b,off,H,L,y⟩:=G D;have E:=y 0 (List.length_pos_iff.2 D);have u:b<w.heap.size:=World.block_lt_of_cell? w _ E;exact ⟨b,off,H,Nat.lt_of_lt_of_le u A.size,fun j J=>A.cell (y j J) (by simp)⟩
theorem Rd.beside {q:IntKind} {B:Nat} {w w':World} {v:Value} {zs:List Int} {u:Option Nat} (h:Rd q B w v zs) (G:w.grownBy w' u) (D:∀ k,u=some k->B<=k):Rd q B w' v zs:=by
 obtain ⟨a,cap,hv,y⟩:=h;refine ⟨a,cap,hv,fun J=>?_⟩;obtain ⟨b,off,H,E,A⟩:=y J;exact ⟨b,off,H,E,fun j L=>G.cell (A j L) (fun e=>by have:=D b e.symm;omega)⟩
theorem Ow.later {q:IntKind} {t:TypeId} {B:Nat} {w w':World} {v:Value} {zs:List Int} (h:Ow q t B w v zs) (j:w.grownBy w' none):Ow q t B w' v zs:=
 World.ownsRow.kept h j (by cases hv:v.ownBlock<;>simp)
theorem gWA {w:World} {o:Obj} {r:Option Nat} : w.grownBy (w.alloc o) r:=World.grownBy_alloc w o r
theorem aA {a b c:World} {r:Option Nat} (h:a.grownBy b r) (k:b.grownBy c r):a.grownBy c r:=
 ⟨k.os.trans h.os,k.tape.trans h.tape,k.output.trans h.output,Nat.le_trans h.size k.size,fun i j u=>(k.block i (Nat.lt_of_lt_of_le j h.size) u).trans (h.block i j u)⟩
theorem aU {a b c:World} {r:Option Nat} (h:a.grownBy b none) (k:b.grownBy c r) (y:∀ j,r=some j->a.heap.size<=j):a.grownBy c none:=
 ⟨k.os.trans h.os,k.tape.trans h.tape,k.output.trans h.output,Nat.le_trans h.size k.size,fun i u _=>(k.block i (Nat.lt_of_lt_of_le u h.size) (fun e=>by have:=y i e.symm;omega)).trans (h.block i u (by simp))⟩
theorem dT {a b:World} {r:Option Nat} (h:a.grownBy b r) (n:Nat):a.grownBy (b.drewN n) r:=⟨h.os,h.tape,h.output,h.size,h.block⟩
theorem aO {w w':World} (h:w.grownBy w' none):Below w.heap.size w w':=⟨h.os,h.tape,h.output,h.size,fun k j=>h.block k j (by simp)⟩
theorem aC {w w':World} (h:Below w.heap.size w w'):w.grownBy w' none:=⟨h.os,h.tape,h.output,h.size,fun k j _=>h.block k j⟩
theorem dF (zs:List Int) (k:Nat) (h:k<zs.length):zs.take (k+1)=zs.take k++[zs[k]?.getD 0]:=by
 rw [List.take_add_one,List.getElem?_eq_getElem h];rfl
def vG (f:Nat->Int) (n:Nat):List Int:=(List.range n).map f
theorem jU (f:Nat->Int) (n:Nat):(vG f n).length=n:=by simp [vG]
theorem aIr (f:Nat->Int) (n j:Nat) (h:j<n):(vG f n)[j]?.getD 0=f j:=by simp [vG,h]
theorem aHD (f:Nat->Int) (n:Nat):vG f (n+1)=vG f n++[f n]:=by simp [vG,List.range_succ]
def uV (k:Int) (i:Nat):Int:=(k+(i:Int))%256
theorem aBR (q:IntKind) (zs:List Int) (k:Nat) (h:k<zs.length) :
  ((zs.take k++List.replicate (zs.length - k) 0).map (Value.int q)).set k (.int q (zs[k]?.getD 0))=(zs.take (k+1)++List.replicate (zs.length - (k+1)) 0).map (Value.int q):=by
 rw [dF zs k h,show zs.length - k=(zs.length - (k+1))+1 by omega,List.replicate_succ];simp [Nat.min_eq_left (Nat.le_of_lt h)]
theorem aG0 (q:IntKind) (f:Nat->Int) (zs:List Int) (i:Nat) (h:i<zs.length) :
  ((vG f i++zs.drop i).map (Value.int q)).set i (.int q (f i))=(vG f (i+1)++zs.drop (i+1)).map (Value.int q):=by
 rw [List.drop_eq_getElem_cons h,aHD,List.map_append,List.set_append_right _ _ (by simp [jU])];simp only [List.length_map,jU,Nat.sub_self,List.map_cons,List.set_cons_zero,List.map_append,List.append_assoc,List.cons_append,List.nil_append]
theorem bH {w:World} {B B':Nat} {e:TypeId} {size:Nat} {v:Value} {k:Nat} {xs:List Value} (h:B'<=B) (u:w.ownsRow B e size v k xs):w.ownsRow B' e size v k xs:=by
 refine ⟨u.1,?_⟩;rcases u.2 with y | ⟨g,cap,j,hv,A,rest⟩
 ·exact .inl y
 ·exact .inr ⟨g,cap,j,hv,by omega,rest⟩
theorem cD {q:IntKind} {t:TypeId} {B:Nat} {w u:World} {v y:Value} {ys xs:List Int} {o:Obj} (n:Nat) (A:B<=w.heap.size)
  (hv:Ow q t B w v ys) (h:u.ownsRow B t 1 y n (ys.map (Value.int q)++xs.map (Value.int q))) (D:n=(ys++xs).length) (j:(w.alloc o).grownBy u v.ownBlock) :
  Ow q t B u y (ys++xs)/\Below B w u:=by
 subst D;refine ⟨by unfold Ow;simpa using h,((Below.refl B w).alloc A o).grown j (by simp;omega) (fun k E=>(World.ownsRow.lt hv k E).1)⟩
theorem aHf {q:IntKind} (x:Addr) (ys D:List Int) (u cap:Nat) (w:World) (G:ys=D.take u) (J:ys.length=u) (N:u<=D.length)
  (h:∀ i,i<D.length->w.cell? (x.add i)=some (.int q (D.getD i 0))):Rd q w.heap.size w (.slice (some x) ys.length cap) ys:=by
 refine ⟨some x,cap,rfl,fun L=>?_⟩;have M:0<ys.length:=List.length_pos_iff.2 L;obtain ⟨b,off,A⟩:=x;have H:=h 0 (by omega);have y:A=none:=(by simpa [Addr.add] using World.cell?_spot H);subst y;refine ⟨b,off,rfl,?_,fun j O=>?_⟩
 ·have:=World.block_lt_of_cell? w _ H;simpa [Addr.add] using this
 ·have E:j<u:=(by omega);have:=h j (by omega);rw [Addr.add_lit] at this;rw [this,G];simp [List.getD,E]
theorem Rd.now {q:IntKind} {B:Nat} {w:World} {v:Value} {zs:List Int} (h:Rd q B w v zs):Rd q w.heap.size w v zs:=h.later (World.grownBy.refl _ _)
theorem Rd.K {q:IntKind} {B:Nat} {w w':World} {v:Value} {zs:List Int} (h:Rd q B w v zs) (j:w.grownBy w' none):Rd q B w' v zs:=h.beside j (fun _ e=>by cases e)
def Sl (v:Value) (n:Nat):Prop:=∃ a cap,v=.slice a n cap/\n<=cap/\cap<=maxLen
theorem Ow.sl {q:IntKind} {t:TypeId} {B:Nat} {w:World} {v:Value} {zs:List Int} (h:Ow q t B w v zs):Sl v zs.length:=by
 rcases h.2 with ⟨hv,y⟩ | ⟨g,cap,A,hv,G,H,j,u,D,E⟩
 ·exact ⟨_,0,by rw [hv,y],by omega,by unfold maxLen;omega⟩
 ·exact ⟨_,cap,hv,j,u⟩
theorem aB {p:Prop} (h:p):Hid p:=h
def aAt (p:Int):Bool:=decide (0<=p/\p<=1114111)
def bZ (p:Int):Bool:=decide (0<=p/\p<65536)
def lU (p:Int):Bool:=decide (55296<=p/\p<56320)
def mD (p:Int):Bool:=decide (56320<=p/\p<=57343)
theorem lF (zs:List Int) (f:Int->Bool) (k:Nat) (u:k<zs.length) (h:(zs.take k).all f=true) (j:f (zs[k]?.getD 0)=true):(zs.take (k+1)).all f=true:=by
 rw [dF zs k u,List.all_append,h];simp [j]
theorem yW (zs:List Int) (f:Int->Bool) (k:Nat) (h:k<zs.length) (j:f (zs[k]?.getD 0)=false):zs.all f=false:=by
 rw [List.all_eq_false];exact ⟨zs[k],List.getElem_mem h,by simpa [h] using j⟩
def bW (p:Int):Bool:=decide ((0<=p/\p<=1114111)/\¬ (55296<=p/\p<=57343))
def cM (p:Int):Int:=if bW p then (if p<128 then 1 else if p<2048 then 2 else if p<65536 then 3 else 4) else 0
def enc (p:Int):List Int:=
 if p<128 then [p] else if p<2048 then [192+p / 64,128+p%64] else if p<65536 then [224+p / 4096,128+p / 64%64,128+p%64]
 else [240+p / 262144,128+p / 4096%64,128+p / 64%64,128+p%64]
def aQ (zs:List Int):List Int:=zs.flatMap enc
def aCG (zs:List Int):List Int × Int:=if zs.all bW then (aQ zs,0) else ([],1)
def st:Nat->Int->Int × List Int
 | 0,p=>(p,[])
 | k+1,p=>((st k p).1 / 64,(128+(st k p).1%64)::(st k p).2)
theorem aLL (k:Nat) (p:Int):(st k p).2.length=k:=by
 induction k with
 | zero=>rfl
 | succ k ih=>simp [st,ih]
theorem aM0 (k:Nat) (p:Int) (h:0<=p) (j:p<=1114111):0<=(st k p).1/\(st k p).1<=1114111:=by
 induction k with
 | zero=>exact ⟨h,j⟩
 | succ k ih=>simp only [st];omega
theorem aGV {p:Int} (h:bW p=true):(0<=p/\p<=1114111)/\¬ (55296<=p/\p<=57343):=of_decide_eq_true h
theorem xO (p:Int) (h:p<128):enc p=[p]:=by simp only [enc,if_pos h]
theorem aER (p:Int) (h:¬ p<128) (j:p<2048):enc p=[192+p / 64,128+p%64]:=by simp only [enc,if_neg h,if_pos j]
theorem aEP (p:Int) (h:¬ p<2048) (j:p<65536):enc p=[224+p / 4096,128+p / 64%64,128+p%64]:=by
 simp only [enc,if_neg (show ¬ p<128 by omega),if_neg h,if_pos j]
theorem aE5 (p:Int) (h:¬ p<65536):enc p=[240+p / 262144,128+p / 4096%64,128+p / 64%64,128+p%64]:=by
 simp only [enc,if_neg (show ¬ p<128 by omega),if_neg (show ¬ p<2048 by omega),if_neg h]
theorem st2 (p:Int) (h:¬ p<128) (j:p<2048):(192+(st 1 p).1)::(st 1 p).2=enc p:=by rw [aER p h j];rfl
theorem st3 (p:Int) (h:¬ p<2048) (j:p<65536):(224+(st 2 p).1)::(st 2 p).2=enc p:=by
 rw [aEP p h j];simp only [st,List.cons.injEq,and_true];omega
theorem st4 (p:Int) (h:¬ p<65536):(240+(st 3 p).1)::(st 3 p).2=enc p:=by
 rw [aE5 p h];simp only [st,List.cons.injEq,and_true];omega
theorem uW (p:Int):1<=(enc p).length/\(enc p).length<=4:=by unfold enc;split<;>(try split)<;>(try split)<;>simp
theorem aDV (zs:List Int) (h:zs.all bW=false):aCG zs=([],1):=by simp [aCG,h]
theorem qH (zs:List Int) (h:zs.all bW=true):aCG zs=(aQ zs,0):=by simp [aCG,h]
theorem aJs (p:Int):bW p=(aAt p && !lU p && !mD p):=by
 rw [Bool.eq_iff_iff];simp [bW,aAt,lU,mD];omega
def Bys (zs:List Int):Prop:=∀ z∈zs,0<=z/\z<=255
theorem Bys.get {zs:List Int} (h:Bys zs) (k:Nat):0<=zs[k]?.getD 0/\zs[k]?.getD 0<=255:=by
 by_cases j:k<zs.length
 ·rw [List.getElem?_eq_getElem j];exact h _ (List.getElem_mem j)
 ·rw [List.getElem?_eq_none (by omega)];simp
def iO:Int->List Int->Int
 | v,[]=>v
 | v,d::r=>if d / 64=2 then iO (v*64+d%64) r else -1
def hZ (n:Nat) (c:Int):Int:=
 if n=1/\c<128 then c else if n=2/\c / 32=6 then c%32 else if n=3/\c / 16=14 then c%16 else if n=4/\c / 8=30 then c%8 else -1
def lv (s:List Int) (n:Nat):Int:=
 if s.length<n then -1 else if hZ n (s[0]?.getD 0)<0 then -1 else iO (hZ n (s[0]?.getD 0)) ((s.drop 1).take (n - 1))
def hit (s:List Int) (n:Nat):Bool:=decide (0<=lv s n)&&(cM (lv s n)==(n:Int))
def aM (s:List Int):Nat:=if hit s 1 then 1 else if hit s 2 then 2 else if hit s 3 then 3 else if hit s 4 then 4 else 0
def pts:Nat->List Int->List Int
 | 0,_=>[]
 | f+1,s=>if s=[] then [] else if aM s=0 then [] else lv s (aM s)::pts f (s.drop (aM s))
def err:Nat->List Int->Nat->Option Nat
 | 0,_,_=>none
 | f+1,s,k=>if s=[] then none else if aM s=0 then some k else err f (s.drop (aM s)) (k+aM s)
def eM (bs:List Int):List Int × Int × Int:=
 match err bs.length bs 0 with
 | none=>(pts bs.length bs,0,0)
 | some k=>([],2,(k:Int))
def aH (bs:List Int):Int:=if (eM bs).2.1=0 then ((eM bs).1.length:Int) else -1
theorem aC7 (f:Nat):pts f []=[]:=by cases f<;>simp [pts]
theorem aGr (f k:Nat):err f [] k=none:=by cases f<;>simp [err]
theorem aC2 {f:Nat} {s:List Int} (j:s≠[]) (h:aM s≠0):pts (f+1) s=lv s (aM s)::pts f (s.drop (aM s)):=by simp [pts,j,h]
theorem aAm {f k:Nat} {s:List Int} (j:s≠[]) (h:aM s≠0):err (f+1) s k=err f (s.drop (aM s)) (k+aM s):=by simp [err,j,h]
theorem aDc {f k:Nat} {s:List Int} (j:s≠[]) (h:aM s=0):err (f+1) s k=some k:=by simp [err,j,h]
theorem aGE (f:Nat):∀ s:List Int,(pts f s).length<=f:=by
 induction f with
 | zero=>intro s;simp [pts]
 | succ f ih=>
   intro s;unfold pts
   split
   ·simp
   ·split
    ·simp
    ·have:=ih (s.drop (aM s));simp only [List.length_cons];omega
theorem aA6 (h:List Int):(eM h).1.length<=h.length:=by
 unfold eM;split
 ·exact aGE _ _
 ·simp
theorem yT {j:List Int} (h:err j.length j 0=none):eM j=(pts j.length j,0,0):=by unfold eM;rw [h]
theorem aAU {j:List Int} {k:Nat} (h:err j.length j 0=some k):eM j=([],2,(k:Int)):=by unfold eM;rw [h]
theorem zB {s:List Int} {n:Nat} (h:hit s n=true):n<=s.length:=by
 simp only [hit,Bool.and_eq_true,decide_eq_true_eq] at h;have j:=h.1;unfold lv at j
 split at j
 ·omega
 ·omega
theorem wE (s:List Int):aM s<=s.length:=by
 unfold aM
 split
 ·exact zB ‹_›
 ·split
  ·exact zB ‹_›
  ·split
   ·exact zB ‹_›
   ·split
    ·exact zB ‹_›
    ·omega
theorem aFc (s:List Int):aM s<=4:=by
 unfold aM;split<;>(try split)<;>(try split)<;>(try split)<;>omega
def Mid (bs acc:List Int) (k:Nat):Prop:=k<=bs.length/\acc.length<=k/\∃ f,bs.length - k<=f/\acc++pts f (bs.drop k)=pts bs.length bs/\err f (bs.drop k) k=err bs.length bs 0
theorem Mid.start (h:List Int):Mid h [] 0:=⟨Nat.zero_le _,Nat.le_refl _,h.length,by omega,by simp,by simp⟩
theorem Mid.step {j u:List Int} {k:Nat} (h:Mid j u k) (J:k<j.length) (E:aM (j.drop k)≠0) :
  Mid j (u++[lv (j.drop k) (aM (j.drop k))]) (k+aM (j.drop k)):=by
 obtain ⟨M,L,f,N,D,y⟩:=h;have G:j.drop k≠[]:=(by rw [ne_eq,List.drop_eq_nil_iff];omega);have H:=wE (j.drop k);rw [List.length_drop] at H;obtain ⟨A,rfl⟩:∃ A,f=A+1:=⟨f - 1,by omega⟩;rw [aC2 G E] at D;rw [aAm G E] at y;rw [List.drop_drop] at D y;refine ⟨by omega,by simp only [List.length_append,List.length_singleton];omega,A,by omega,?_,?_⟩
 ·rw [<- D];simp
 ·exact y
theorem Mid.bad {j u:List Int} {k:Nat} (h:Mid j u k) (G:k<j.length) (D:aM (j.drop k)=0):eM j=([],2,(k:Int)):=by
 obtain ⟨L,H,f,M,J,y⟩:=h;have E:j.drop k≠[]:=(by rw [ne_eq,List.drop_eq_nil_iff];omega);obtain ⟨A,rfl⟩:∃ A,f=A+1:=⟨f - 1,by omega⟩;rw [aDc E D] at y;exact aAU y.symm
theorem Mid.done {u j:List Int} {k:Nat} (h:Mid u j k) (D:¬ k<u.length):eM u=(j,0,0):=by
 obtain ⟨G,E,f,H,A,y⟩:=h;rw [List.drop_eq_nil_of_le (by omega),aC7] at A;rw [List.drop_eq_nil_of_le (by omega),aGr] at y;rw [yT y.symm,<- A];simp
theorem pM (h:List Int) (k j:Nat):(h.drop k)[j]?.getD 0=h[k+j]?.getD 0:=by simp [List.getElem?_drop]
theorem eG {s:List Int} {n k:Nat} {x:Int} (j:k<n) (h:n<=s.length) :
  iO x ((s.drop k).take (n - k))=if s[k]?.getD 0 / 64=2 then iO (x*64+s[k]?.getD 0%64) ((s.drop (k+1)).take (n - (k+1))) else -1:=by
 rw [List.drop_eq_getElem_cons (by omega),show n - k=(n - (k+1))+1 by omega,List.take_succ_cons,iO];simp [show k<s.length by omega]
theorem aAQ {s:List Int} {n:Nat} (h:s.length<n):lv s n = -1:=by simp [lv,h]
theorem aCV {s:List Int} {n:Nat} (h:n<=s.length) (j:hZ n (s[0]?.getD 0)<0):lv s n = -1:=by
 rw [lv,if_neg (by omega),if_pos j]
theorem jX {s:List Int} {n:Nat} (h:n<=s.length) (j:0<=hZ n (s[0]?.getD 0)):lv s n=iO (hZ n (s[0]?.getD 0)) ((s.drop 1).take (n - 1)):=by
 rw [lv,if_neg (by omega),if_neg (by omega)]
theorem lM (c:Int) (h:c<128):hZ 1 c=c:=by simp [hZ,h]
theorem aAY (c:Int) (h:c / 32=6):hZ 2 c=c%32:=by simp [hZ,h]
theorem tM (c:Int) (h:c / 16=14):hZ 3 c=c%16:=by simp [hZ,h]
theorem wY (c:Int) (h:c / 8=30):hZ 4 c=c%8:=by simp [hZ,h]
theorem lA (n:Nat) (c:Int) (h:¬ (n=1/\c<128)) (u:¬ (n=2/\c / 32=6)) (y:¬ (n=3/\c / 16=14)) (j:¬ (n=4/\c / 8=30)):hZ n c = -1:=by
 simp only [hZ,if_neg h,if_neg u,if_neg y,if_neg j]
theorem aBf (a:Option Addr) (h cap k n:Nat) (w:World) (u:h<=4194304) (j:k<h) (y:n<=4) (A:h<k+n) :
  Calls prog 108 #[.slice a h cap,.int .i64 k,.int .i64 n] w fun e w'=>e=.returned (.int .i64 (-1))/\w=w':=by
 go_enter func108,ntmps108
 go_wp2;go_ret;exact ⟨rfl,rfl⟩
theorem aEJ (b off h cap k n:Nat) (c:Int) (w:World) (G:h<=4194304) (D:0<=c) (A:c<128) (u:w.cell? ⟨b,off+k,none⟩=some (.int .u8 c)) (H:k+n<=h) (y:((n:Int)==1)=true) :
  Calls prog 108 #[.slice (some ⟨b,off,none⟩) h cap,.int .i64 k,.int .i64 n] w fun e w'=>e=.returned (.int .i64 c)/\w=w':=by
 have j:n=1:=(by simp at y;omega);have E:k<h:=(by omega);clear j
 go_enter func108,ntmps108
 go_wp2;go_ret;exact ⟨rfl,rfl⟩
theorem aES (b off h cap k n:Nat) (c:Int) (w:World) (Y:h<=4194304) (X:0<=c) (U:c<=255) (S:w.cell? ⟨b,off+k,none⟩=some (.int .u8 c)) (hs:k+n<=h) (h1:1<=n) (Z:n<=4)
  (j:¬ (n=1/\c<128)) (A:¬ (n=2/\c / 32=6)) (u:¬ (n=3/\c / 16=14)) (y:¬ (n=4/\c / 8=30)) :
  Calls prog 108 #[.slice (some ⟨b,off,none⟩) h cap,.int .i64 k,.int .i64 n] w fun e w'=>e=.returned (.int .i64 (-1))/\w=w':=by
 have O:k<h:=by omega
 by_cases D:n=1
 ·have J:((n:Int)==1)=true:=(by simp;omega);have G:((n:Int)==2)=false:=(by simp;omega);have E:((n:Int)==3)=false:=(by simp;omega);have M:((n:Int)==4)=false:=(by simp;omega);have L:128<=c:=(by omega);clear j A u y D
  go_enter func108,ntmps108
  go_wp2;go_ret;exact ⟨rfl,rfl⟩
 ·by_cases H:n=2
  ·have J:((n:Int)==1)=false:=(by simp;omega);have G:((n:Int)==2)=true:=(by simp;omega);have E:((n:Int)==3)=false:=(by simp;omega);have M:((n:Int)==4)=false:=(by simp;omega);have L:(c / 32==6)=false:=(by simp;omega);clear j A u y D H
   go_enter func108,ntmps108
   go_wp2;go_ret;exact ⟨rfl,rfl⟩
  ·by_cases N:n=3
   ·have J:((n:Int)==1)=false:=(by simp;omega);have G:((n:Int)==2)=false:=(by simp;omega);have E:((n:Int)==3)=true:=(by simp;omega);have M:((n:Int)==4)=false:=(by simp;omega);have L:(c / 16==14)=false:=(by simp;omega);clear j A u y D H N
    go_enter func108,ntmps108
    go_wp2;go_ret;exact ⟨rfl,rfl⟩
   ·have J:((n:Int)==1)=false:=(by simp;omega);have G:((n:Int)==2)=false:=(by simp;omega);have E:((n:Int)==3)=false:=(by simp;omega);have M:((n:Int)==4)=true:=(by simp;omega);have L:(c / 8==30)=false:=(by simp;omega);clear j A u y D H N
    go_enter func108,ntmps108
    go_wp2;go_ret;exact ⟨rfl,rfl⟩
theorem rH (b off cap k n:Nat) (zs:List Int) (c:Int) (w:World) (hm:zs.length<=4194304) (a5:Bys zs) (b5:c=zs[k]?.getD 0) (hs:k+n<=zs.length) (h2:2<=n) (h4:n<=4)
  (hc:∀ j,j<zs.length->w.cell? ⟨b,off+j,none⟩=some (.int .u8 (zs[j]?.getD 0)))
  (a8:(n=2/\c / 32=6)\/(n=3/\c / 16=14)\/(n=4/\c / 8=30)) :
  Calls prog 108 #[.slice (some ⟨b,off,none⟩) zs.length cap,.int .i64 k,.int .i64 n] w fun e w'=>e=.returned (.int .i64 (iO (hZ n c) (((zs.drop k).drop 1).take (n - 1))))/\w=w':=by
 have c6:k<zs.length:=(by omega);have c7:=hc k c6;have c3:=a5.get k;rw [<- b5] at c7 c3;clear b5;obtain ⟨d5,d4⟩:=c3;have HC:Hid (∀ j,j<zs.length->w.cell? ⟨b,off+j,none⟩=some (.int .u8 (zs[j]?.getD 0))):=hc;clear hc;have t1:((n:Int)==1)=false:=(by simp;omega);obtain ⟨x0,y⟩:∃ x0,x0=hZ n c:=⟨_,rfl⟩;rw [<- y];obtain ⟨R,hR⟩:∃ R,R=iO x0 (((zs.drop k).drop 1).take (n - 1)):=⟨_,rfl⟩;rw [<- hR];have HR:Hid (R=iO x0 (((zs.drop k).drop 1).take (n - 1))):=hR;clear hR;rcases a8 with ⟨E,X⟩ | ⟨E,X⟩ | ⟨E,X⟩
 ·have U:x0=c%32:=(by rw [y,E];exact aAY c X);have t2:((n:Int)==2)=true:=(by simp;omega);have t3:((n:Int)==3)=false:=(by simp;omega);have t4:((n:Int)==4)=false:=(by simp;omega);have a7:(c / 32==6)=true:=(by simp [X]);clear X y E;subst U
  go_enter func108,ntmps108
  go_wp2
  go_loop [8,9] (fun v i=>∃ (j:Nat) (x:Int),1<=j/\j<=n/\i=.int .i64 j/\v=.int .i64 x/\0<=x/\(j=1->x<32)/\(j=2->x<2048)/\(j=3->x<131072)/\(j=4->x<8388608)/\Hid (R=iO x (((zs.drop k).drop j).take (n - j))))
   (fun _ i=>n - (intOf i).toNat)
  case atStart=>exact ⟨1,_,by omega,by omega,rfl,rfl,by omega,fun _=>by omega,fun _=>by omega,fun _=>by omega,fun _=>by omega,HR⟩
  case round=>
   obtain ⟨j,x,b0,b7,rfl,rfl,y,M,L,N,Z,O⟩:=hrel;have b6:x<8388608:=by omega
   by_cases Y:j<n
   ·have h:=eG (s:=zs.drop k) (x:=x) Y (by rw [List.length_drop];omega);rw [pM] at h;have S:=HC.out (k+j) (by omega);have H:=a5.get (k+j);have J:j=1->x<32:=M;have A:j=2->x<2048:=L;have D:j=3->x<131072:=N;generalize zs[k+j]?.getD 0=d at h S H;obtain ⟨c1,b8⟩:=H;have c2:k+j<zs.length:=by omega
    by_cases u:d / 64=2
    ·rw [if_pos u] at h;have G:Hid (R=iO (x*64+d%64) (((zs.drop k).drop (j+1)).take (n - (j+1)))):=(by unfold Hid;rw [O.out];exact h);have a4:(d / 64 != 2)=false:=(by simp [u]);have q1:j+1=1->x*64+d%64<32:=(by omega);have q2:j+1=2->x*64+d%64<2048:=(by omega);have q3:j+1=3->x*64+d%64<131072:=(by omega);have q4:j+1=4->x*64+d%64<8388608:=(by omega);clear h u M L N Z J A D;go_wp2
     go_round
     case rel=>exact ⟨j+1,_,by omega,by omega,by go_num,rfl,by omega,q1,q2,q3,q4,G.out⟩
     case measure=>simp [intOf];omega
    ·rw [if_neg u] at h;have G:Hid (R = -1):=(by unfold Hid;rw [O.out];exact h);have a4:(d / 64 != 2)=true:=(by simp [u]);clear h u M L N Z J A D;go_wp2;go_ret;exact ⟨by rw [G.out];rfl,rfl⟩
   ·have G:Hid (R=x):=by
     unfold Hid;rw [O.out,show n - j=0 by omega];simp [iO]
    clear M L N Z O;go_wp2;go_ret;exact ⟨by rw [G.out];rfl,rfl⟩
 ·have U:x0=c%16:=(by rw [y,E];exact tM c X);have t2:((n:Int)==2)=false:=(by simp;omega);have t3:((n:Int)==3)=true:=(by simp;omega);have t4:((n:Int)==4)=false:=(by simp;omega);have a7:(c / 16==14)=true:=(by simp [X]);clear X y E;subst U
  go_enter func108,ntmps108
  go_wp2
  go_loop [8,9] (fun v i=>∃ (j:Nat) (x:Int),1<=j/\j<=n/\i=.int .i64 j/\v=.int .i64 x/\0<=x/\(j=1->x<32)/\(j=2->x<2048)/\(j=3->x<131072)/\(j=4->x<8388608)/\Hid (R=iO x (((zs.drop k).drop j).take (n - j))))
   (fun _ i=>n - (intOf i).toNat)
  case atStart=>exact ⟨1,_,by omega,by omega,rfl,rfl,by omega,fun _=>by omega,fun _=>by omega,fun _=>by omega,fun _=>by omega,HR⟩
  case round=>
   obtain ⟨j,x,b0,b7,rfl,rfl,y,M,L,N,Z,O⟩:=hrel;have b6:x<8388608:=by omega
   by_cases Y:j<n
   ·have h:=eG (s:=zs.drop k) (x:=x) Y (by rw [List.length_drop];omega);rw [pM] at h;have S:=HC.out (k+j) (by omega);have H:=a5.get (k+j);have J:j=1->x<32:=M;have A:j=2->x<2048:=L;have D:j=3->x<131072:=N;generalize zs[k+j]?.getD 0=d at h S H;obtain ⟨c1,b8⟩:=H;have c2:k+j<zs.length:=by omega
    by_cases u:d / 64=2
    ·rw [if_pos u] at h;have G:Hid (R=iO (x*64+d%64) (((zs.drop k).drop (j+1)).take (n - (j+1)))):=(by unfold Hid;rw [O.out];exact h);have a4:(d / 64 != 2)=false:=(by simp [u]);have q1:j+1=1->x*64+d%64<32:=(by omega);have q2:j+1=2->x*64+d%64<2048:=(by omega);have q3:j+1=3->x*64+d%64<131072:=(by omega);have q4:j+1=4->x*64+d%64<8388608:=(by omega);clear h u M L N Z J A D;go_wp2
     go_round
     case rel=>exact ⟨j+1,_,by omega,by omega,by go_num,rfl,by omega,q1,q2,q3,q4,G.out⟩
     case measure=>simp [intOf];omega
    ·rw [if_neg u] at h;have G:Hid (R = -1):=(by unfold Hid;rw [O.out];exact h);have a4:(d / 64 != 2)=true:=(by simp [u]);clear h u M L N Z J A D;go_wp2;go_ret;exact ⟨by rw [G.out];rfl,rfl⟩
   ·have G:Hid (R=x):=by
     unfold Hid;rw [O.out,show n - j=0 by omega];simp [iO]
    clear M L N Z O;go_wp2;go_ret;exact ⟨by rw [G.out];rfl,rfl⟩
 ·have U:x0=c%8:=(by rw [y,E];exact wY c X);have t2:((n:Int)==2)=false:=(by simp;omega);have t3:((n:Int)==3)=false:=(by simp;omega);have t4:((n:Int)==4)=true:=(by simp;omega);have a7:(c / 8==30)=true:=(by simp [X]);clear X y E;subst U
  go_enter func108,ntmps108
  go_wp2
  go_loop [8,9] (fun v i=>∃ (j:Nat) (x:Int),1<=j/\j<=n/\i=.int .i64 j/\v=.int .i64 x/\0<=x/\(j=1->x<32)/\(j=2->x<2048)/\(j=3->x<131072)/\(j=4->x<8388608)/\Hid (R=iO x (((zs.drop k).drop j).take (n - j))))
   (fun _ i=>n - (intOf i).toNat)
  case atStart=>exact ⟨1,_,by omega,by omega,rfl,rfl,by omega,fun _=>by omega,fun _=>by omega,fun _=>by omega,fun _=>by omega,HR⟩
  case round=>
   obtain ⟨j,x,b0,b7,rfl,rfl,y,M,L,N,Z,O⟩:=hrel;have b6:x<8388608:=by omega
   by_cases Y:j<n
   ·have h:=eG (s:=zs.drop k) (x:=x) Y (by rw [List.length_drop];omega);rw [pM] at h;have S:=HC.out (k+j) (by omega);have H:=a5.get (k+j);have J:j=1->x<32:=M;have A:j=2->x<2048:=L;have D:j=3->x<131072:=N;generalize zs[k+j]?.getD 0=d at h S H;obtain ⟨c1,b8⟩:=H;have c2:k+j<zs.length:=by omega
    by_cases u:d / 64=2
    ·rw [if_pos u] at h;have G:Hid (R=iO (x*64+d%64) (((zs.drop k).drop (j+1)).take (n - (j+1)))):=(by unfold Hid;rw [O.out];exact h);have a4:(d / 64 != 2)=false:=(by simp [u]);have q1:j+1=1->x*64+d%64<32:=(by omega);have q2:j+1=2->x*64+d%64<2048:=(by omega);have q3:j+1=3->x*64+d%64<131072:=(by omega);have q4:j+1=4->x*64+d%64<8388608:=(by omega);clear h u M L N Z J A D;go_wp2
     go_round
     case rel=>exact ⟨j+1,_,by omega,by omega,by go_num,rfl,by omega,q1,q2,q3,q4,G.out⟩
     case measure=>simp [intOf];omega
    ·rw [if_neg u] at h;have G:Hid (R = -1):=(by unfold Hid;rw [O.out];exact h);have a4:(d / 64 != 2)=true:=(by simp [u]);clear h u M L N Z J A D;go_wp2;go_ret;exact ⟨by rw [G.out];rfl,rfl⟩
   ·have G:Hid (R=x):=by
     unfold Hid;rw [O.out,show n - j=0 by omega];simp [iO]
    clear M L N Z O;go_wp2;go_ret;exact ⟨by rw [G.out];rfl,rfl⟩
theorem xT (v:Value) (zs:List Int) (k n:Nat) (w:World) (hv:RdB w.heap.size w v zs) (y:Bys zs) (D:zs.length<=4194304) (O:k<zs.length) (Z:1<=n) (E:n<=4) :
  Calls prog 108 #[v,.int .i64 k,.int .i64 n] w fun e w'=>e=.returned (.int .i64 (lv (zs.drop k) n))/\w=w':=by
 obtain ⟨a,cap,rfl,Y⟩:=hv;have U:(zs.drop k).length=zs.length - k:=List.length_drop
 by_cases X:zs.length<k+n
 ·rw [aAQ (by omega)];exact aBf a zs.length cap k n w D O E X
 ·obtain ⟨b,off,rfl,hb,N⟩:=Y (fun h=>by simp [h] at O);have j:(zs.drop k)[0]?.getD 0=zs[k]?.getD 0:=(by rw [pM];rfl);have u:=y.get k;have H:=N k O
  by_cases S:n=1/\zs[k]?.getD 0<128
  ·obtain ⟨rfl,A⟩:=S;rw [jX (by omega) (by rw [j,lM _ A];exact u.1),j,lM _ A];exact aEJ b off zs.length cap k 1 _ w D u.1 A H (by omega) rfl
  ·by_cases J:n=2/\zs[k]?.getD 0 / 32=6
   ·have M:hZ n (zs[k]?.getD 0)=zs[k]?.getD 0%32:=(by rw [J.1];exact aAY _ J.2);rw [jX (by omega) (by rw [j,M];omega),j];exact rH b off cap k n zs _ w D y rfl (by omega) (by omega) E N (.inl J)
   ·by_cases G:n=3/\zs[k]?.getD 0 / 16=14
    ·have M:hZ n (zs[k]?.getD 0)=zs[k]?.getD 0%16:=(by rw [G.1];exact tM _ G.2);rw [jX (by omega) (by rw [j,M];omega),j];exact rH b off cap k n zs _ w D y rfl (by omega) (by omega) E N (.inr (.inl G))
    ·by_cases L:n=4/\zs[k]?.getD 0 / 8=30
     ·have M:hZ n (zs[k]?.getD 0)=zs[k]?.getD 0%8:=(by rw [L.1];exact wY _ L.2);rw [jX (by omega) (by rw [j,M];omega),j];exact rH b off cap k n zs _ w D y rfl (by omega) (by omega) E N (.inr (.inr L))
     ·rw [aCV (by omega) (by rw [j,lA _ _ S J G L];omega)];exact aES b off zs.length cap k n _ w D u.1 u.2 H (by omega) Z E S J G L
theorem cL {s:List Int} {m:Nat} (h:hZ m (s[0]?.getD 0)<0):hit s m=false:=by
 have:lv s m = -1:=by
  by_cases j:s.length<m
  ·exact aAQ j
  ·exact aCV (by omega) h
 simp [hit,this]
theorem sQ {s:List Int} {m:Nat} (h:lv s m = -1):hit s m=false:=by simp [hit,h]
theorem bL {s:List Int} {n:Nat} (E:1<=n) (D:n<=4) (h:∀ m,1<=m->m<=4->m≠n->hit s m=false):aM s=if hit s n then n else 0:=by
 unfold aM
 by_cases u:n=1
 ·subst u;rw [h 2 (by omega) (by omega) (by omega),h 3 (by omega) (by omega) (by omega),h 4 (by omega) (by omega) (by omega)];simp
 ·rw [h 1 (by omega) (by omega) (by omega)]
  by_cases y:n=2
  ·subst y;rw [h 3 (by omega) (by omega) (by omega),h 4 (by omega) (by omega) (by omega)];simp
  ·rw [h 2 (by omega) (by omega) (by omega)]
   by_cases A:n=3
   ·subst A;rw [h 4 (by omega) (by omega) (by omega)];simp
   ·rw [h 3 (by omega) (by omega) (by omega)];have j:n=4:=(by omega);subst j;simp
theorem aFJ {s:List Int} (h:∀ m,1<=m->m<=4->hit s m=false):aM s=0:=by
 unfold aM;rw [h 1 (by omega) (by omega),h 2 (by omega) (by omega),h 3 (by omega) (by omega),h 4 (by omega) (by omega)];simp
theorem aBE {c:Int} (y:0<=c) (h:c<128):∀ m,1<=m->m<=4->m≠1->hZ m c<0:=by
 intro m A u j;rw [lA m c (by omega) (by omega) (by omega) (by omega)];omega
theorem pB {c:Int} (h:c / 32=6):∀ m,1<=m->m<=4->m≠2->hZ m c<0:=by
 intro m y u j;rw [lA m c (by omega) (by omega) (by omega) (by omega)];omega
theorem mJ {c:Int} (h:c / 16=14):∀ m,1<=m->m<=4->m≠3->hZ m c<0:=by
 intro m y u j;rw [lA m c (by omega) (by omega) (by omega) (by omega)];omega
theorem kY {c:Int} (h:c / 8=30):∀ m,1<=m->m<=4->m≠4->hZ m c<0:=by
 intro m y u j;rw [lA m c (by omega) (by omega) (by omega) (by omega)];omega
theorem aHa {c:Int} (h:128<=c) (D:¬ c / 32=6) (y:¬ c / 16=14) (j:¬ c / 8=30):∀ m,1<=m->m<=4->hZ m c<0:=by
 intro m A u;rw [lA m c (by omega) (by omega) (by omega) (by omega)];omega
def eF (s:List Int) (k:Nat):Prop:=k<s.length/\s[k]?.getD 0 / 64=2
theorem xH (x:Int) (s:List Int) (n:Nat):iO x ((s.drop n).take (n - n))=x:=by simp [iO]
theorem lv2 {s:List Int} (j:s[0]?.getD 0 / 32=6) (y:eF s 1):lv s 2=s[0]?.getD 0%32*64+s[1]?.getD 0%64:=by
 obtain ⟨A,u⟩:=y;have h:hZ 2 (s[0]?.getD 0)=s[0]?.getD 0%32:=aAY _ j;rw [jX (by omega) (by rw [h];omega),h,eG (by omega) (by omega),if_pos u,xH]
theorem lv3 {s:List Int} (j:s[0]?.getD 0 / 16=14) (D:eF s 1) (y:eF s 2):lv s 3=(s[0]?.getD 0%16*64+s[1]?.getD 0%64)*64+s[2]?.getD 0%64:=by
 obtain ⟨E,A⟩:=D;obtain ⟨G,u⟩:=y;have h:hZ 3 (s[0]?.getD 0)=s[0]?.getD 0%16:=tM _ j;rw [jX (by omega) (by rw [h];omega),h,eG (by omega) (by omega),if_pos A,eG (by omega) (by omega),if_pos u,xH]
theorem lv4 {s:List Int} (j:s[0]?.getD 0 / 8=30) (D:eF s 1) (y:eF s 2) (E:eF s 3) :
  lv s 4=((s[0]?.getD 0%8*64+s[1]?.getD 0%64)*64+s[2]?.getD 0%64)*64+s[3]?.getD 0%64:=by
 obtain ⟨J,A⟩:=D;obtain ⟨L,u⟩:=y;obtain ⟨H,G⟩:=E;have h:hZ 4 (s[0]?.getD 0)=s[0]?.getD 0%8:=wY _ j;rw [jX (by omega) (by rw [h];omega),h,eG (by omega) (by omega),if_pos A,eG (by omega) (by omega),if_pos u,eG (by omega) (by omega),if_pos G,xH]
theorem aL1 {s:List Int} {n:Nat} (x:Int) (k:Nat) (u:k<n) (j:n<=s.length) (h:¬ s[k]?.getD 0 / 64=2):iO x ((s.drop k).take (n - k)) = -1:=by
 rw [eG u j,if_neg h]
theorem uE {s:List Int} {n:Nat} (k:Nat) (u:1<=k) (G:k<n) (D:∀ j,1<=j->j<k->eF s j) (h:¬ eF s k):lv s n = -1:=by
 by_cases L:s.length<n
 ·exact aAQ L
 ·have H:¬ s[k]?.getD 0 / 64=2:=fun e=>h ⟨by omega,e⟩
  by_cases A:hZ n (s[0]?.getD 0)<0
  ·exact aCV (by omega) A
  ·rw [jX (by omega) (by omega)];generalize hZ n (s[0]?.getD 0)=x
   have y:∀ j,1<=j->j<=k->∀ x,iO x ((s.drop j).take (n - j)) = -1:=by
    intro j
    induction hj:k - j generalizing j with
    | zero=>
      intro E M x;have:j=k:=by omega
      subst this;exact aL1 x j G (by omega) H
    | succ d ih=>
      intro E M x;have J:=D j E (by omega);rw [eG (by omega) (by omega),if_pos J.2];exact ih (j+1) (by omega) (by omega) (by omega) _
   exact y 1 (Nat.le_refl _) u x
theorem xF {y:Int} (j:y<2048):cM y=2 ↔ (¬ y<128/\bW y=true):=by
 unfold cM;cases h:bW y<;>simp<;>split<;>(try split)<;>(try split)<;>omega
theorem wQ {y:Int} (j:y<65536):cM y=3 ↔ (¬ y<2048/\bW y=true):=by
 unfold cM;cases h:bW y<;>simp<;>split<;>(try split)<;>(try split)<;>omega
theorem xN {y:Int} : cM y=4 ↔ (¬ y<65536/\bW y=true):=by
 unfold cM;cases h:bW y<;>simp<;>split<;>(try split)<;>(try split)<;>omega
theorem fQ {s:List Int} {n:Nat} {y:Int} (hv:lv s n=y) (h:0<=y):hit s n=true ↔ cM y=n:=by
 simp [hit,hv,h]
def fpP (s:List Int):Int:=if aM s=0 then -1 else lv s (aM s)
theorem eS {s:List Int} (h:aM s=0):fpP s = -1:=by simp [fpP,h]
theorem uQ {s:List Int} {n:Nat} {y:Int} (j:n≠0) (h:aM s=n) (hv:lv s n=y):fpP s=y:=by simp [fpP,h,j,hv]
def sZ:Nat->List Int->Nat->List (Int × Int)
 | 0,_,_=>[]
 | f+1,s,k=>if s=[] then [] else if aM s=0 then [((k:Int),-1)] else ((k:Int),lv s (aM s))::sZ f (s.drop (aM s)) (k+aM s)
def kL (zs:List Int):List (Int × Int):=sZ zs.length zs 0
theorem aF7 (f k:Nat):sZ f [] k=[]:=by cases f<;>simp [sZ]
theorem aFk {f k:Nat} {s:List Int} (j:s≠[]) (h:aM s≠0):sZ (f+1) s k=((k:Int),lv s (aM s))::sZ f (s.drop (aM s)) (k+aM s):=by simp [sZ,j,h]
theorem aCL {f k:Nat} {s:List Int} (j:s≠[]) (h:aM s=0):sZ (f+1) s k=[((k:Int),-1)]:=by simp [sZ,j,h]
theorem aGe {s:List Int} {n:Nat} (h:hit s n=true):0<=lv s n:=by
 simp only [hit,Bool.and_eq_true,decide_eq_true_eq] at h;exact h.1
theorem aJc {s:List Int} (h:aM s≠0):0<=lv s (aM s):=by
 have j:hit s (aM s)=true:=by
  unfold aM at h ⊢
  split
  ·assumption
  ·split
   ·assumption
   ·split
    ·assumption
    ·split
     ·assumption
     ·simp_all
 exact aGe j
theorem aMa {s:List Int} (h:aM s≠0):0<=fpP s:=by unfold fpP;rw [if_neg h];exact aJc h
def tT (zs:List Int) (pre:List (Int × Int)) (k:Nat):Prop:=k<=zs.length/\pre.length<=k/\∃ f,zs.length - k<=f/\pre++sZ f (zs.drop k) k=kL zs
theorem tT.start (zs:List Int):tT zs [] 0:=⟨Nat.zero_le _,Nat.le_refl _,zs.length,by omega,by simp [kL]⟩
theorem tT.step {zs:List Int} {j:List (Int × Int)} {k:Nat} (h:tT zs j k) (G:k<zs.length) (y:aM (zs.drop k)≠0) :
  tT zs (j++[((k:Int),fpP (zs.drop k))]) (k+aM (zs.drop k)):=by
 obtain ⟨J,H,f,L,A⟩:=h;have D:zs.drop k≠[]:=(by rw [ne_eq,List.drop_eq_nil_iff];omega);have E:=wE (zs.drop k);rw [List.length_drop] at E;obtain ⟨u,rfl⟩:∃ u,f=u+1:=⟨f - 1,by omega⟩;rw [aFk D y,List.drop_drop] at A;refine ⟨by omega,by simp only [List.length_append,List.length_singleton];omega,u,by omega,?_⟩;rw [<- A];simp [fpP,y]
theorem tT.bad {zs:List Int} {j:List (Int × Int)} {k:Nat} (h:tT zs j k) (E:k<zs.length) (u:aM (zs.drop k)=0):j++[((k:Int),fpP (zs.drop k))]=kL zs:=by
 obtain ⟨H,G,f,J,A⟩:=h;have D:zs.drop k≠[]:=(by rw [ne_eq,List.drop_eq_nil_iff];omega);obtain ⟨y,rfl⟩:∃ y,f=y+1:=⟨f - 1,by omega⟩;rw [aCL D u] at A;rw [eS u];exact A
theorem tT.done {zs:List Int} {j:List (Int × Int)} {k:Nat} (h:tT zs j k) (y:¬ k<zs.length):j=kL zs:=by
 obtain ⟨A,D,f,E,u⟩:=h;rw [List.drop_eq_nil_of_le (by omega),aF7] at u;simpa using u
theorem tT.prefix {zs:List Int} {j:List (Int × Int)} {k:Nat} (h:tT zs j k):j <+: kL zs:=by
 obtain ⟨y,A,f,D,u⟩:=h;exact ⟨_,u⟩
theorem aJo (f:Nat):∀ (s:List Int) (k:Nat),(∀ x∈sZ f s k,x.2≠-1)->err f s k=none/\(sZ f s k).map (·.2)=pts f s:=by
 induction f with
 | zero=>intro s k _;simp [sZ,err,pts]
 | succ f ih=>
   intro s k h
   by_cases j:s=[]
   ·simp [sZ,err,pts,j]
   ·by_cases u:aM s=0
    ·rw [aCL j u] at h;exact absurd rfl (h _ (List.mem_singleton.2 rfl))
    ·rw [aFk j u] at h ⊢;have y:=ih (s.drop (aM s)) (k+aM s) (fun x A=>h x (List.mem_cons_of_mem _ A));rw [aAm j u,aC2 j u];exact ⟨y.1,by simp [y.2]⟩
theorem aJy (f:Nat):∀ (s:List Int) (k:Nat) (q:List (Int × Int)) (x:Int × Int),q++[x] <+: sZ f s k->x.2 = -1->∃ m:Nat,err f s k=some m/\x.1=(m:Int):=by
 induction f with
 | zero=>intro s k q x h _;simp [sZ] at h
 | succ f ih=>
   intro s k q x h D
   by_cases u:s=[]
   ·rw [u,aF7] at h;simp at h
   ·by_cases A:aM s=0
    ·rw [aCL u A] at h;refine ⟨k,aDc u A,?_⟩;cases q with
     | nil=>obtain ⟨t,j⟩:=h;simp at j;rw [j.1]
     | cons y q=>obtain ⟨t,j⟩:=h;simp at j
    ·rw [aFk u A] at h;rw [aAm u A];cases q with
     | nil=>
       obtain ⟨t,j⟩:=h;simp at j;have:=aJc A;rw [j.1] at D;simp at D;omega
     | cons y q=>
       refine ih (s.drop (aM s)) (k+aM s) q x ?_ D;rw [List.cons_append,List.cons_prefix_cons] at h;exact h.2
theorem aCc {zs:List Int} (h:∀ x∈kL zs,x.2≠-1):eM zs=((kL zs).map (·.2),0,0):=by
 have j:=aJo zs.length zs 0 h;rw [yT j.1];unfold kL;rw [j.2]
theorem aBD {zs:List Int} {q:List (Int × Int)} {x:Int × Int} (h:q++[x] <+: kL zs) (u:x.2 = -1):eM zs=([],2,x.1):=by
 obtain ⟨m,y,j⟩:=aJy zs.length zs 0 q x h u;rw [aAU y,j]
def iA (c:Int):Bool:=decide ((97<=c/\c<=122)\/(65<=c/\c<=90)\/c=95\/c=36)
def aK (c:Int):Bool:=decide (48<=c/\c<=57)
def vT (k:Nat) (c:Int):Bool:=iA c||(k != 0&&aK c)
def tS (zs:List Int) (k:Nat):Bool:=(List.range k).all fun j=>vT j (zs[j]?.getD 0)
def nmR (zs:List Int):Bool:=tS zs zs.length&&decide (0<zs.length)
theorem aB4 (zs:List Int) (k:Nat) (h:tS zs k=true) (j:vT k (zs[k]?.getD 0)=true):tS zs (k+1)=true:=by
 simp only [tS,List.range_succ,List.all_append,List.all_cons,List.all_nil] at h ⊢;simp [h,j]
theorem aGj (zs:List Int) (k:Nat) (h:k<zs.length) (j:vT k (zs[k]?.getD 0)=false):nmR zs=false:=by
 have:tS zs zs.length=false:=by
  rw [tS,List.all_eq_false];exact ⟨k,List.mem_range.2 h,by simpa using j⟩
 simp [nmR,this]
theorem aGa (zs:List Int) (h:tS zs zs.length=true):nmR zs=decide (0<zs.length):=by simp [nmR,h]
theorem aGw (c:Nat) (n:Nat) (j:c<256) (u:n<256) (h:c ||| n=c+n):bits .or .u8 (c:Int) (n:Int)=(c:Int)+n:=by
 rw [u8_or_nat c n j u,h];omega
theorem aM1 (x:Int) (j:0<=x) (u:x<64):bits .or .u8 128 x=128+x:=by
 obtain ⟨n,rfl⟩:=Int.eq_ofNat_of_zero_le j;have h:∀ m:Nat,m<64->128 ||| m=128+m:=(by decide);exact aGw 128 n (by omega) (by omega) (h n (by omega))
theorem aMX (x:Int) (j:0<=x) (u:x<32):bits .or .u8 192 x=192+x:=by
 obtain ⟨n,rfl⟩:=Int.eq_ofNat_of_zero_le j;have h:∀ m:Nat,m<32->192 ||| m=192+m:=(by decide);exact aGw 192 n (by omega) (by omega) (h n (by omega))
theorem aMZ (x:Int) (j:0<=x) (u:x<16):bits .or .u8 224 x=224+x:=by
 obtain ⟨n,rfl⟩:=Int.eq_ofNat_of_zero_le j;have h:∀ m:Nat,m<16->224 ||| m=224+m:=(by decide);exact aGw 224 n (by omega) (by omega) (h n (by omega))
theorem aM4 (x:Int) (j:0<=x) (u:x<8):bits .or .u8 240 x=240+x:=by
 obtain ⟨n,rfl⟩:=Int.eq_ofNat_of_zero_le j;have h:∀ m:Nat,m<8->240 ||| m=240+m:=(by decide);exact aGw 240 n (by omega) (by omega) (h n (by omega))
theorem sG (a:Nat) (h:a<4294967296):(BitVec.ofInt 32 (a:Int)).toNat=a:=by
 rw [BitVec.ofInt_natCast,BitVec.toNat_ofNat];exact Nat.mod_eq_of_lt (by omega)
theorem mS (n:Int) (h:0<=n) (j:n<2147483648):IntKind.i32.wrap n=n:=by
 simp [IntKind.wrap,IntKind.bits,IntKind.signed];omega
theorem aEq (a b:Nat) (u:a<2147483648) (h:b<2147483648):bits .and .i32 (a:Int) (b:Int)=((a &&& b:Nat):Int):=by
 have j:a &&& b<2 ^ 31:=Nat.and_lt_two_pow _ (by omega)
 show IntKind.i32.wrap ((BitVec.ofInt 32 (a:Int) &&& BitVec.ofInt 32 (b:Int)).toNat:Int)=_
 rw [BitVec.toNat_and,sG a (by omega),sG b (by omega),mS _ (by omega) (by omega)]
theorem aFj (a b:Nat) (u:a<2147483648) (h:b<2147483648):bits .or .i32 (a:Int) (b:Int)=((a ||| b:Nat):Int):=by
 have j:a ||| b<2 ^ 31:=Nat.or_lt_two_pow (by omega) (by omega)
 show IntKind.i32.wrap ((BitVec.ofInt 32 (a:Int) ||| BitVec.ofInt 32 (b:Int)).toNat:Int)=_
 rw [BitVec.toNat_or,sG a (by omega),sG b (by omega),mS _ (by omega) (by omega)]
theorem oD (k:Nat) (y:k<31) (p:Int) (h:0<=p) (j:p<2147483648):bits .and .i32 p (((2 ^ k - 1:Nat):Int))=p%((2 ^ k:Nat):Int):=by
 obtain ⟨n,rfl⟩:=Int.eq_ofNat_of_zero_le h;have u:2 ^ k<=2 ^ 30:=Nat.pow_le_pow_right (by omega) (by omega);rw [aEq n _ (by omega) (by omega),Nat.and_two_pow_sub_one_eq_mod];omega
theorem aM5 (p:Int) (h:0<=p) (j:p<2147483648):bits .and .i32 p 63=p%64:=by
 simpa using oD 6 (by omega) p h j
end Go.Proofs.YtgifkcpdihphlaaGreatDoor
