import Derived.Test.YtgifkcpdihphlaaGreatDoorMAA
set_option maxHeartbeats 16000000
set_option maxRecDepth 100000
namespace Go.Proofs.YtgifkcpdihphlaaGreatDoor
open Tryz
open Go.RowKit
theorem jJ (p:Int) (w:World):Calls prog 104 #[.int .i64 p] w fun e w'=>e=.returned (.int .i64 (cM p))/\w=w':=by
 by_cases E:p<0
 ·have h:Hid (cM p=0):=by simp [Hid,cM,bW];omega
  go_enter func104,ntmps104
  go_wp2;go_ret;exact ⟨by rw [h.out];rfl,rfl⟩
 ·by_cases A:1114111<p
  ·have h:Hid (cM p=0):=by simp [Hid,cM,bW];omega
   go_enter func104,ntmps104
   go_wp2;go_ret;exact ⟨by rw [h.out];rfl,rfl⟩
  ·by_cases D:p<55296
   ·have j:bW p=true:=by simp [bW];omega
    by_cases y:p<128
    ·have h:Hid (cM p=1):=(by simp [Hid,cM,j,y]);clear j
     go_enter func104,ntmps104
     go_wp2;go_ret;exact ⟨by rw [h.out];rfl,rfl⟩
    ·by_cases u:p<2048
     ·have h:Hid (cM p=2):=(by simp [Hid,cM,j,y,u]);clear j
      go_enter func104,ntmps104
      go_wp2;go_ret;exact ⟨by rw [h.out];rfl,rfl⟩
     ·have h:Hid (cM p=3):=(by simp [Hid,cM,j,y,u];omega);clear j
      go_enter func104,ntmps104
      go_wp2;go_ret;exact ⟨by rw [h.out];rfl,rfl⟩
   ·by_cases y:p<=57343
    ·have h:Hid (cM p=0):=by simp [Hid,cM,bW];omega
     go_enter func104,ntmps104
     go_wp2;go_ret;exact ⟨by rw [h.out];rfl,rfl⟩
    ·have j:bW p=true:=by simp [bW];omega
     by_cases u:p<65536
     ·have h:Hid (cM p=3):=(by simp [Hid,cM,j,u];omega);clear j
      go_enter func104,ntmps104
      go_wp2;go_ret;exact ⟨by rw [h.out];rfl,rfl⟩
     ·have h:Hid (cM p=4):=(by simp [Hid,cM,j,u];omega);clear j
      go_enter func104,ntmps104
      go_wp2;go_ret;exact ⟨by rw [h.out];rfl,rfl⟩
structure Cm where
 b:Bool
 t:List Int
theorem Rd.wideC {q:IntKind} {B B':Nat} {w:World} {v:Value} {zs:List Int} (h:Rd q B w v zs) (D:B<=B'):Rd q B' w v zs:=by
 obtain ⟨a,cap,hv,u⟩:=h;refine ⟨a,cap,hv,fun A=>?_⟩;obtain ⟨b,off,y,E,j⟩:=u A;exact ⟨b,off,y,by omega,j⟩
structure aIJ (B:Nat) (w:World) (b o:Nat) (p:Cm) (tv:Value):Prop where
 k:w.cell? ⟨b,o,none⟩=some (.bool p.b)
 t:w.cell? ⟨b,o+1,none⟩=some tv
 rd:RdB B w tv p.t
 sl:Sl tv p.t.length
def RdC (B:Nat) (w:World) (v:Value) (cs:List Cm):Prop:=
 ∃ a cap,v=.slice a cs.length cap/\cs.length<=cap/\cap<=maxLen/\(cs≠[]->∃ b off,a=some ⟨b,off,none⟩/\b<B/\∀ j p,cs[j]?=some p->∃ tv,aIJ B w b (off+j*2) p tv)
theorem aIJ.beside {B:Nat} {w w':World} {b o:Nat} {p:Cm} {tv:Value} {j:Option Nat} (h:aIJ B w b o p tv) (D:b<B) (u:w.grownBy w' j) (A:∀ k,j=some k->B<=k):aIJ B w' b o p tv:=
 have y:some b≠j:=fun e=>by have:=A b e.symm;omega
 ⟨u.cell h.k y,u.cell h.t y,h.rd.beside u A,h.sl⟩
theorem RdC.beside {B:Nat} {w w':World} {v:Value} {y:List Cm} {u:Option Nat} (h:RdC B w v y) (M:w.grownBy w' u) (J:∀ k,u=some k->B<=k):RdC B w' v y:=by
 obtain ⟨a,cap,hv,H,O,E⟩:=h;refine ⟨a,cap,hv,H,O,fun S=>?_⟩;obtain ⟨b,off,N,A,D⟩:=E S;refine ⟨b,off,N,A,fun j p L=>?_⟩;obtain ⟨tv,G⟩:=D j p L;exact ⟨tv,G.beside A M J⟩
theorem RdC.K {B:Nat} {w w':World} {v:Value} {j:List Cm} (h:RdC B w v j) (u:w.grownBy w' none):RdC B w' v j:=h.beside u (fun _ e=>by cases e)
theorem RdC.wide {B B':Nat} {w:World} {v:Value} {y:List Cm} (h:RdC B w v y) (A:B<=B'):RdC B' w v y:=by
 obtain ⟨a,cap,hv,G,L,E⟩:=h;refine ⟨a,cap,hv,G,L,fun M=>?_⟩;obtain ⟨b,off,J,N,D⟩:=E M;refine ⟨b,off,J,by omega,fun j p H=>?_⟩;obtain ⟨tv,u⟩:=D j p H;exact ⟨tv,⟨u.k,u.t,u.rd.wideC A,u.sl⟩⟩
theorem RdC.at {B:Nat} {w:World} {v:Value} {u:List Cm} (h:RdC B w v u) (j:Nat) (y:j<u.length) :
  ∃ b off cap tv,v=.slice (some ⟨b,off,none⟩) u.length cap/\b<B/\aIJ B w b (off+j*2) u[j] tv:=by
 obtain ⟨a,cap,hv,J,L,D⟩:=h;obtain ⟨b,off,H,G,A⟩:=D (fun e=>by rw [e] at y;simp at y);obtain ⟨tv,E⟩:=A j u[j] (by simp [y]);exact ⟨b,off,cap,tv,by rw [hv,H],G,E⟩
theorem RdC.sl {B:Nat} {w:World} {v:Value} {j:List Cm} (h:RdC B w v j):Sl v j.length:=by
 obtain ⟨a,cap,hv,y,u,_⟩:=h;exact ⟨a,cap,hv,y,u⟩
structure Nod where
 k:Int
 L:List Cm
 mem:Bool
 key:List Int
 X:List Int
 U:List Int
 C:Int
 tail:List Cm
structure aA0 (B:Nat) (w:World) (b o:Nat) (p:Nod) (lv kv xv uv tv:Value):Prop where
 k:w.cell? ⟨b,o,none⟩=some (.int .i64 p.k)
 L:w.cell? ⟨b,o+1,none⟩=some lv
 mem:w.cell? ⟨b,o+2,none⟩=some (.bool p.mem)
 key:w.cell? ⟨b,o+3,none⟩=some kv
 X:w.cell? ⟨b,o+4,none⟩=some xv
 U:w.cell? ⟨b,o+5,none⟩=some uv
 C:w.cell? ⟨b,o+6,none⟩=some (.int .i64 p.C)
 tail:w.cell? ⟨b,o+7,none⟩=some tv
 rl:RdC B w lv p.L
 rk:RdI B w kv p.key
 sk:Sl kv p.key.length
 rx:RdB B w xv p.X
 sx:Sl xv p.X.length
 ru:RdI B w uv p.U
 su:Sl uv p.U.length
 rt:RdC B w tv p.tail
def RdN (B:Nat) (w:World) (v:Value) (ns:List Nod):Prop:=
 ∃ a cap,v=.slice a ns.length cap/\ns.length<=cap/\cap<=maxLen/\(ns≠[]->∃ b off,a=some ⟨b,off,none⟩/\b<B/\∀ j p,ns[j]?=some p->∃ lv kv xv uv tv,aA0 B w b (off+j*8) p lv kv xv uv tv)
theorem aA0.beside {B:Nat} {w w':World} {b o:Nat} {p:Nod} {lv E G D tv:Value} {y:Option Nat} (h:aA0 B w b o p lv E G D tv) (H:b<B) (j:w.grownBy w' y) (A:∀ k,y=some k->B<=k):aA0 B w' b o p lv E G D tv:=
 have u:some b≠y:=fun e=>by have:=A b e.symm;omega
 ⟨j.cell h.k u,j.cell h.L u,j.cell h.mem u,j.cell h.key u,j.cell h.X u,j.cell h.U u,j.cell h.C u,j.cell h.tail u,
  h.rl.beside j A,h.rk.beside j A,h.sk,h.rx.beside j A,h.sx,h.ru.beside j A,h.su,h.rt.beside j A⟩
theorem RdN.beside {B:Nat} {w w':World} {v:Value} {A:List Nod} {u:Option Nat} (h:RdN B w v A) (N:w.grownBy w' u) (J:∀ k,u=some k->B<=k):RdN B w' v A:=by
 obtain ⟨a,cap,hv,H,O,G⟩:=h;refine ⟨a,cap,hv,H,O,fun Y=>?_⟩;obtain ⟨b,off,U,y,D⟩:=G Y;refine ⟨b,off,U,y,fun j p L=>?_⟩;obtain ⟨lv,S,X,M,tv,E⟩:=D j p L;exact ⟨lv,S,X,M,tv,E.beside y N J⟩
theorem RdN.K {B:Nat} {w w':World} {v:Value} {j:List Nod} (h:RdN B w v j) (u:w.grownBy w' none):RdN B w' v j:=h.beside u (fun _ e=>by cases e)
theorem RdN.wide {B B':Nat} {w:World} {v:Value} {y:List Nod} (h:RdN B w v y) (u:B<=B'):RdN B' w v y:=by
 obtain ⟨a,cap,hv,E,J,D⟩:=h;refine ⟨a,cap,hv,E,J,fun S=>?_⟩;obtain ⟨b,off,N,Y,A⟩:=D S;refine ⟨b,off,N,by omega,fun j p G=>?_⟩;obtain ⟨lv,M,O,H,tv,t⟩:=A j p G;exact ⟨lv,M,O,H,tv,t.k,t.L,t.mem,t.key,t.X,t.U,t.C,t.tail,t.rl.wide u,t.rk.wideC u,t.sk,t.rx.wideC u,t.sx,t.ru.wideC u,t.su,t.rt.wide u⟩
theorem RdN.at {B:Nat} {w:World} {v:Value} {u:List Nod} (h:RdN B w v u) (j:Nat) (E:j<u.length) :
  ∃ b off cap lv A D y tv,v=.slice (some ⟨b,off,none⟩) u.length cap/\b<B/\aA0 B w b (off+j*8) u[j] lv A D y tv:=by
 obtain ⟨a,cap,hv,N,O,J⟩:=h;obtain ⟨b,off,M,L,G⟩:=J (fun e=>by rw [e] at E;simp at E);obtain ⟨lv,A,D,y,tv,H⟩:=G j u[j] (by simp [E]);exact ⟨b,off,cap,lv,A,D,y,tv,by rw [hv,M],L,H⟩
def aN {σ:Type} (f:σ->Option σ):Nat->σ->Option σ
 | 0,s=>some s
 | k+1,s=>(f s).bind (aN f k)
def aD {σ:Type} (chk:Nod->σ->Option σ):Nat->Bool->List Nod × σ->Option (List Nod × σ)
 | 0,_,_=>none
 | _+1,_,([],_)=>none
 | d+1,m,(n::R,s)=>if n.mem≠m then none else (chk n s).bind fun s'=>if 5<=n.k/\d=0 then none else aN (aD chk d (decide (n.k=6))) n.C.toNat (R,s')
def oJ {σ:Type} (chk:Nod->σ->Option σ):List Nod->σ->Option σ
 | [],s=>some s
 | n::P,s=>(chk n s).bind (oJ chk P)
theorem qA {σ:Type} (h:Nod->σ->Option σ):∀ (P Q:List Nod) (s:σ),oJ h (P++Q) s=(oJ h P s).bind (oJ h Q)
 | [],Q,s=>rfl
 | n::P,Q,s=>by
   simp only [List.cons_append,oJ];cases h n s with
   | none=>rfl
   | some s'=>exact qA h P Q s'
def aZ (_:Nod) (u:Unit):Option Unit:=some u
def aFo {σ:Type} (chk:Nod->σ->Option σ) (f:List Nod × σ->Option (List Nod × σ)) (g:List Nod × Unit->Option (List Nod × Unit)):Prop:=
 ∀ (R:List Nod) (s:σ) (R2:List Nod) (s2:σ),f (R,s)=some (R2,s2) ↔ ∃ P,R=P++R2/\g (R,())=some (R2,())/\oJ chk P s=some s2
def aLf (g:List Nod × Unit->Option (List Nod × Unit)):Prop:=∀ R R2,g (R,())=some (R2,())->∃ P,R=P++R2
theorem iH {σ:Type} {N:Nod->σ->Option σ} {f:List Nod × σ->Option (List Nod × σ)} {g:List Nod × Unit->Option (List Nod × Unit)} (h:aFo N f g) (S:aLf g):∀ k,aFo N (aN f k) (aN g k)/\aLf (aN g k)
 | 0=>by
   refine ⟨fun R s u O=>⟨fun h=>?_,fun ⟨P,h1,h2,h3⟩=>?_⟩,fun R u h=>?_⟩
   ·simp only [aN,Option.some.injEq,Prod.mk.injEq] at h;obtain ⟨rfl,rfl⟩:=h;exact ⟨[],rfl,rfl,rfl⟩
   ·simp only [aN,Option.some.injEq,Prod.mk.injEq,and_true] at h2;subst h2;have X:P=[]:=(by simpa using h1);subst X;simp only [oJ,Option.some.injEq] at h3;subst h3;rfl
   ·simp only [aN,Option.some.injEq,Prod.mk.injEq,and_true] at h;exact ⟨[],by simpa using h⟩
 | k+1=>by
   obtain ⟨ih,L⟩:=iH h S k;refine ⟨fun R s u O=>⟨fun J=>?_,fun ⟨P,h1,h2,h3⟩=>?_⟩,fun R u J=>?_⟩
   ·simp only [aN,Option.bind_eq_some_iff] at J;obtain ⟨⟨j,M⟩,U,Y⟩:=J;obtain ⟨A,G,E,f1⟩:=(h R s j M).1 U;obtain ⟨y,H,D,f2⟩:=(ih j M u O).1 Y;refine ⟨A++y,by rw [G,H,List.append_assoc],?_,?_⟩
    ·simp only [aN,E,Option.bind_some];exact D
    ·rw [qA,f1];exact f2
   ·simp only [aN,Option.bind_eq_some_iff] at h2;obtain ⟨⟨j,⟨⟩⟩,E,D⟩:=h2;obtain ⟨A,G⟩:=S R j E;obtain ⟨y,H⟩:=L j u D
    have X:P=A++y:=by
     have:P++u=(A++y)++u:=by rw [<- h1,G,H,List.append_assoc]
     exact List.append_cancel_right this
    rw [X,qA,Option.bind_eq_some_iff] at h3;obtain ⟨M,f1,f2⟩:=h3;have U:=(h R s j M).2 ⟨A,G,E,f1⟩;have Y:=(ih j M u O).2 ⟨y,H,D,f2⟩;simp only [aN,U,Option.bind_some];exact Y
   ·simp only [aN,Option.bind_eq_some_iff] at J;obtain ⟨⟨j,⟨⟩⟩,E,D⟩:=J;obtain ⟨A,G⟩:=S R j E;obtain ⟨y,H⟩:=L j u D;exact ⟨A++y,by rw [G,H,List.append_assoc]⟩
theorem bV {σ:Type} (j:Nod->σ->Option σ):∀ (d:Nat) (m:Bool),aFo j (aD j d m) (aD aZ d m)/\aLf (aD aZ d m)
 | 0,m=>⟨fun R s u L=>by simp [aD],fun R u h=>by simp [aD] at h⟩
 | d+1,m=>by
   have J:=fun O k=>iH (bV j d O).1 (bV j d O).2 k;refine ⟨fun R s u L=>?_,fun R u y=>?_⟩
   ·cases R with
    | nil=>simp [aD]
    | cons n R=>
      by_cases A:n.mem≠m
      ·simp [aD,A]
      ·by_cases E:5<=n.k/\d=0
       ·simp [aD,A,E,aZ]
       ·have S:aD j (d+1) m (n::R,s)=(j n s).bind fun D=>aN (aD j d (decide (n.k=6))) n.C.toNat (R,D):=(by simp only [aD,if_neg A,if_neg E]);have X:aD aZ (d+1) m (n::R,())=aN (aD aZ d (decide (n.k=6))) n.C.toNat (R,()):=(by simp only [aD,if_neg A,if_neg E,aZ,Option.bind_some]);rw [S,X];constructor
        ·intro y;rw [Option.bind_eq_some_iff] at y;obtain ⟨D,N,M⟩:=y;obtain ⟨P,r,g,f⟩:=((J _ _).1 R D u L).1 M;exact ⟨n::P,by rw [r];rfl,g,by simp only [oJ,N,Option.bind_some];exact f⟩
        ·rintro ⟨P,r,g,f⟩;obtain ⟨G,H⟩:=(J _ _).2 R u g
         have U:P=n::G:=by
          have:P++u=(n::G)++u:=by rw [<- r,H];rfl
          exact List.append_cancel_right this
         rw [U] at f;simp only [oJ,Option.bind_eq_some_iff] at f;obtain ⟨D,N,M⟩:=f;rw [Option.bind_eq_some_iff];exact ⟨D,N,((J _ _).1 R D u L).2 ⟨G,H,g,M⟩⟩
   ·cases R with
    | nil=>simp [aD] at y
    | cons n R=>
      by_cases A:n.mem≠m
      ·simp [aD,A] at y
      ·by_cases E:5<=n.k/\d=0
       ·simp [aD,A,E,aZ] at y
       ·simp only [aD,if_neg A,if_neg E,aZ,Option.bind_some] at y;obtain ⟨G,H⟩:=(J _ _).2 R u y;exact ⟨n::G,by rw [H];rfl⟩
theorem aD1 {σ:Type} (h:Nod->σ->Option σ) (d:Nat) (m:Bool) (R:List Nod) (s j:σ):aD h d m (R,s)=some ([],j) ↔ aD aZ d m (R,())=some ([],())/\oJ h R s=some j:=by
 rw [(bV h d m).1 R s [] j];constructor
 ·rintro ⟨P,r,g,f⟩;have:R=P:=by simpa using r
  subst this;exact ⟨g,f⟩
 ·rintro ⟨g,f⟩;exact ⟨R,by simp,g,f⟩
theorem aHi (d:Nat) (m:Bool) (R u:List Nod) (h:aD aZ d m (R,())=some (u,())):u.length<R.length:=by
 cases d with
 | zero=>simp [aD] at h
 | succ d=>
   cases R with
   | nil=>simp [aD] at h
   | cons n R=>
     by_cases j:n.mem≠m
     ·simp [aD,j] at h
     ·by_cases y:5<=n.k/\d=0
      ·simp [aD,j,y,aZ] at h
      ·simp only [aD,if_neg j,if_neg y,aZ,Option.bind_some] at h;obtain ⟨P,r⟩:=(iH (bV aZ d _).1 (bV aZ d _).2 _).2 R u h;rw [r];simp;omega
theorem aB8 (d:Nat) (m:Bool):∀ (k:Nat) (R:List Nod),R.length<k->aN (aD aZ d m) k (R,())=none
 | 0,R,h=>by omega
 | k+1,R,h=>by
   simp only [aN];cases u:aD aZ d m (R,()) with
   | none=>rfl
   | some x=>
     obtain ⟨j,⟨⟩⟩:=x;have:=aHi d m R j u;exact aB8 d m k j (by omega)
def iF (len:Nat):Nat->Bool->List Nod->Option (List Nod)
 | 0,_,_=>none
 | _+1,_,[]=>none
 | d+1,m,n::R=>if n.mem≠m then none else if (len:Int)<n.C\/(5<=n.k/\d=0) then none else aN (iF len d (decide (n.k=6))) n.C.toNat R
theorem aBQ (f:List Nod->Option (List Nod)) (g:List Nod × Unit->Option (List Nod × Unit)) (j:Nat) (h:∀ R,R.length<=j->(f R).map (fun x=>(x,()))=g (R,())) (A:aLf g):∀ (k:Nat) (R:List Nod),R.length<=j->(aN f k R).map (fun x=>(x,()))=aN g k (R,())
 | 0,R,_=>rfl
 | k+1,R,hl=>by
   simp only [aN];have u:=h R hl;cases y:f R with
   | none=>rw [y] at u;simp only [Option.map_none] at u;rw [<- u];rfl
   | some R1=>
     rw [y] at u;simp only [Option.map_some] at u;rw [<- u];obtain ⟨P,r⟩:=A R R1 u.symm;exact aBQ f g j h A k R1 (by rw [r] at hl;simp at hl;omega)
theorem rL (h:Nat):∀ (d:Nat) (m:Bool) (R:List Nod),R.length<=h->(iF h d m R).map (fun x=>(x,()))=aD aZ d m (R,())
 | 0,_,_,_=>rfl
 | _+1,_,[],_=>rfl
 | d+1,m,n::R,hl=>by
   by_cases j:n.mem≠m
   ·simp [iF,aD,j]
   ·by_cases u:5<=n.k/\d=0
    ·simp [iF,aD,j,u,aZ]
    ·have D:aD aZ (d+1) m (n::R,())=aN (aD aZ d (decide (n.k=6))) n.C.toNat (R,()):=(by simp only [aD,if_neg j,if_neg u,aZ,Option.bind_some]);rw [D]
     by_cases y:(h:Int)<n.C
     ·rw [aB8 d _ _ R (by simp at hl;omega)];simp [iF,j,y]
     ·have A:iF h (d+1) m (n::R)=aN (iF h d (decide (n.k=6))) n.C.toNat R:=(by simp only [iF,if_neg j];rw [if_neg (by omega)]);rw [A];exact aBQ _ _ h (fun G E=>rL h d _ G E) (bV aZ d _).2 _ R (by simp at hl;omega)
def qD (u x:Int):Int:=65536+(u - 55296)*1024+(x - 56320)
def fu:List Int->List Int
 | []=>[]
 | [u]=>[u]
 | u::x::r=>if lU u&&mD x then qD u x::fu r else u::fu (x::r)
def fuR (zs:List Int):List Int × Int:=if zs.all bZ then (fu zs,0) else ([],1)
theorem sT (zs:List Int) (k:Nat) (h:k<zs.length):zs.drop k=zs[k]?.getD 0::zs.drop (k+1):=by
 rw [List.drop_eq_getElem_cons h];simp [h]
theorem aJW (zs:List Int) (k:Nat) (y:k<zs.length) (h:¬ (lU (zs[k]?.getD 0)=true/\k+1<zs.length/\mD (zs[k+1]?.getD 0)=true)) :
  fu (zs.drop k)=zs[k]?.getD 0::fu (zs.drop (k+1)):=by
 rw [sT zs k y]
 by_cases j:k+1<zs.length
 ·rw [sT zs (k+1) j,fu,if_neg];simp only [Bool.and_eq_true];exact fun u=>h ⟨u.1,j,u.2⟩
 ·rw [List.drop_eq_nil_of_le (by omega)];rfl
theorem aIf (zs:List Int) (k:Nat) (u:k+1<zs.length) (h:lU (zs[k]?.getD 0)=true) (j:mD (zs[k+1]?.getD 0)=true) :
  fu (zs.drop k)=qD (zs[k]?.getD 0) (zs[k+1]?.getD 0)::fu (zs.drop (k+2)):=by
 rw [sT zs k (by omega),sT zs (k+1) u,fu,if_pos (by simp [h,j])]
theorem aEU:∀ (n:Nat) (zs:List Int),zs.length<=n->(fu zs).length<=zs.length
 | 0,zs,h=>by
   have:zs=[]:=List.eq_nil_of_length_eq_zero (by omega);subst this;simp [fu]
 | n+1,[],_=>by simp [fu]
 | n+1,[u],_=>by simp [fu]
 | n+1,u::x::r,h=>by
   simp only [List.length_cons] at h;rw [fu]
   split
   ·have:=aEU n r (by omega);simp only [List.length_cons];omega
   ·have:=aEU n (x::r) (by simp only [List.length_cons];omega);simp only [List.length_cons] at this ⊢;omega
theorem aCQ (zs:List Int):(fuR zs).1.length<=zs.length:=by
 unfold fuR;split
 ·exact aEU _ zs (Nat.le_refl _)
 ·simp
theorem rY (zs:List Int) (h:zs.all bZ=false):fuR zs=([],1):=by simp [fuR,h]
theorem aCo (zs:List Int) (h:zs.all bZ=true):fuR zs=(fu zs,0):=by simp [fuR,h]
theorem aMM {p:Int} (h:mD p=true):bZ p=true:=by
 simp [mD,bZ] at h ⊢;omega
theorem aDL {zs j:List Int} {k:Nat} {p:Int} (u:j++fu (zs.drop k)=fu zs) (h:fu (zs.drop k)=p::fu (zs.drop (k+1))):j++[p]++fu (zs.drop (k+1))=fu zs:=by
 rw [<- u,h];simp
theorem aEv {zs j:List Int} {k:Nat} {p:Int} (u:j++fu (zs.drop k)=fu zs) (h:fu (zs.drop k)=p::fu (zs.drop (k+2))):j++[p]++fu (zs.drop (k+2))=fu zs:=by
 rw [<- u,h];simp
theorem aIU {zs h:List Int} {k:Nat} (u:zs.length<=k) (j:h++fu (zs.drop k)=fu zs):h=fu zs:=by
 rw [List.drop_eq_nil_of_le u] at j;simpa [fu] using j
def szB (n:Nat) (left:Int):Int:=if left - n<0 then -1 else left - n
theorem xU (a:Option Addr) (n cap:Nat) (left:Int) (w:World) (y:n<=9223372036854775807) (u:0<=left) (A:left<=1048576) :
  Calls prog 59 #[.slice a n cap,.int .i64 left] w fun e w'=>e=.returned (.int .i64 (szB n left))/\w=w':=by
 by_cases h:left - n<0
 ·have j:Hid (szB n left = -1):=by unfold Hid szB;rw [if_pos h]
  go_enter func59,ntmps59
  go_wp2;go_ret;exact ⟨by rw [j.out];rfl,rfl⟩
 ·have j:Hid (szB n left=left - n):=by unfold Hid szB;rw [if_neg h]
  go_enter func59,ntmps59
  go_wp2;go_ret;exact ⟨by rw [j.out];rfl,rfl⟩
theorem qG (n:Nat) (left:Int) (h:left<=1048576) : -1<=szB n left/\szB n left<=1048576:=by
 unfold szB;split<;>omega
theorem aBw (k:Value) (a:Option Addr) (h cap:Nat) (left:Int) (w:World) (D:h<=9223372036854775807) (G:0<=left) (y:left<=1048576) :
  Calls prog 30 #[.agg #[k,.slice a h cap],.int .i64 left] w fun e w'=>e=.returned (.int .i64 (szB h left))/\w.grownBy w' none:=by
 have E:=qG h left y;have u:=xU a h cap left (w.alloc (Obj.cells #[k,Value.slice a h cap] 69)) D G y;generalize szB h left=r at E u
 by_cases H:r<0
 ·have j:r = -1:=(by omega);subst j
  go_enter func30,ntmps30
  go_wp2_with fail
  refine u.mono ?_;rintro e A ⟨rfl,rfl⟩;go_wp2;go_ret;exact ⟨rfl,gWA⟩
 ·go_enter func30,ntmps30
  go_wp2_with fail
  refine u.mono ?_;rintro e A ⟨rfl,rfl⟩;go_wp2;go_ret;exact ⟨rfl,gWA⟩
def qC:List Cm->Int->Int
 | [],l=>l
 | p::ps,l=>if szB p.t.length l<0 then -1 else qC ps (szB p.t.length l)
def jV (doc:List Cm) (left:Int):Int:=if left - doc.length<0 then -1 else qC doc (left - doc.length)
theorem aLm (doc:List Cm) (k:Nat) (j:k<doc.length) (l:Int) (h:¬ szB doc[k].t.length l<0):qC (doc.drop k) l=qC (doc.drop (k+1)) (szB doc[k].t.length l):=by
 rw [List.drop_eq_getElem_cons j];simp only [qC];rw [if_neg h]
theorem aIx (doc:List Cm) (k:Nat) (j:k<doc.length) (l:Int) (h:szB doc[k].t.length l<0):qC (doc.drop k) l = -1:=by
 rw [List.drop_eq_getElem_cons j];simp only [qC];rw [if_pos h]
theorem mV (v:Value) (doc:List Cm) (left:Int) (w:World) (hv:RdC w.heap.size w v doc) (h0:0<=left) (h1:left<=1048576) :
  Calls prog 14 #[v,.int .i64 left] w fun e w'=>e=.returned (.int .i64 (jV doc left))/\w.grownBy w' none:=by
 obtain ⟨a,cap,O,a7,J,_⟩:=id hv;unfold maxLen at J
 by_cases h:left - doc.length<0
 ·have G:Hid (jV doc left = -1):=(by unfold Hid jV;rw [if_pos h]);subst O;clear hv
  go_enter func14,ntmps14
  go_wp2;go_ret;exact ⟨by rw [G.out];rfl,World.grownBy.refl _ _⟩
 ·have G:Hid (jV doc left=qC doc (left - doc.length)):=(by unfold Hid jV;rw [if_neg h]);subst O
  go_enter func14,ntmps14
  go_wp2
  go_loopw [1,5] (fun lf i wr=>∃ (k:Nat) (l:Int),k<=doc.length/\i=.int .i64 k/\lf=.int .i64 l/\0<=l/\l<=1048576/\Hid (qC (doc.drop k) l=jV doc left)/\w.grownBy wr none)
   (fun _ i _=>doc.length - (intOf i).toNat)
  case atStart=>exact ⟨0,left - doc.length,Nat.zero_le _,rfl,by go_num,by omega,by omega,by unfold Hid;rw [G.out];rfl,World.grownBy.refl _ _⟩
  case round=>
   obtain ⟨k,l,hk,rfl,rfl,a6,L,E,y⟩:=hrel
   by_cases D:k<doc.length
   ·obtain ⟨b,off,a9,tv,a5,hb,M⟩:=(hv.K y).at k D;cases a5;have b2:=M.k;have b5:=M.t;obtain ⟨ta,N,U,b3,Z⟩:=M.sl;unfold maxLen at Z;subst U;have X:=qG doc[k].t.length l L;have A:=aBw (.bool doc[k].b) ta doc[k].t.length N l wr (by omega) a6 L;have u:=aLm doc k D l;have j:=aIx doc k D l;generalize szB doc[k].t.length l=r at X A u j
    by_cases hr:r<0
    ·have Y:r = -1:=(by omega);have H:Hid (jV doc left = -1):=(by unfold Hid;rw [<- E.out];exact j hr);subst Y;clear hv M u j G E
     go_wp2_with fail
     refine A.mono ?_;rintro e w1 ⟨rfl,S⟩;go_wp2;go_ret;exact ⟨by rw [H.out];rfl,aA y S⟩
    ·have H:Hid (qC (doc.drop (k+1)) r=jV doc left):=(by unfold Hid;rw [<- E.out];exact (u hr).symm);clear hv M u j G E
     go_wp2_with fail
     refine A.mono ?_;rintro e w1 ⟨rfl,S⟩;go_wp2
     go_roundw
     case rel=>exact ⟨k+1,r,by omega,by go_num,rfl,by omega,by omega,H,aA y S⟩
     case measure=>simp [intOf];omega
   ·have a4:k=doc.length:=(by omega);have H:Hid (jV doc left=l):=(by unfold Hid;rw [<- E.out,a4];simp [qC]);clear hv G E;go_wp2;go_ret;exact ⟨by rw [H.out];rfl,y⟩
theorem aAb (a:Option Addr) (n cap:Nat) (left:Int) (w:World) (y:n<=9223372036854775807) (u:0<=left) (A:left<=1048576) :
  Calls prog 58 #[.slice a n cap,.int .i64 left] w fun e w'=>e=.returned (.int .i64 (szB n left))/\w=w':=by
 by_cases h:left - n<0
 ·have j:Hid (szB n left = -1):=by unfold Hid szB;rw [if_pos h]
  go_enter func58,ntmps58
  go_wp2;go_ret;exact ⟨by rw [j.out];rfl,rfl⟩
 ·have j:Hid (szB n left=left - n):=by unfold Hid szB;rw [if_neg h]
  go_enter func58,ntmps58
  go_wp2;go_ret;exact ⟨by rw [j.out];rfl,rfl⟩
theorem aFV:∀ (h:List Cm) (l:Int),0<=l->l<=1048576->-1<=qC h l/\qC h l<=1048576
 | [],l,h0,h1=>by simp only [qC];omega
 | c::h,l,h0,h1=>by
   have j:=qG c.t.length l h1;simp only [qC]
   split
   ·omega
   ·exact aFV h _ (by omega) j.2
theorem vJ (h:List Cm) (l:Int) (j:0<=l) (u:l<=1048576) : -1<=jV h l/\jV h l<=1048576:=by
 unfold jV
 split
 ·omega
 ·exact aFV h _ (by omega) (by omega)
def fV (l:Int) (f:Int->Int):Int:=if l<0 then -1 else f l
theorem sJ {l:Int} {f:Int->Int} (h:¬ l<0):fV l f=f l:=if_neg h
def mG (p:Nod) (left:Int):Int:=fV (fV (fV (fV (jV p.L left) (szB p.key.length)) (szB p.X.length)) (szB p.U.length)) (jV p.tail)
theorem mQ {w j:World} {a b c d e f g h:Value} {t:TypeId} (u:(w.alloc (.cells #[a,b,c,d,e,f,g,h] t)).grownBy j none) :
  j.cell? ⟨w.heap.size,0,none⟩=some a/\j.cell? ⟨w.heap.size,1,none⟩=some b/\j.cell? ⟨w.heap.size,2,none⟩=some c/\j.cell? ⟨w.heap.size,3,none⟩=some d/\
  j.cell? ⟨w.heap.size,4,none⟩=some e/\j.cell? ⟨w.heap.size,5,none⟩=some f/\j.cell? ⟨w.heap.size,6,none⟩=some g/\j.cell? ⟨w.heap.size,7,none⟩=some h:=
 ⟨u.cell (by simp [go_sem]) (by simp),u.cell (by simp [go_sem]) (by simp),u.cell (by simp [go_sem]) (by simp),u.cell (by simp [go_sem]) (by simp),
  u.cell (by simp [go_sem]) (by simp),u.cell (by simp [go_sem]) (by simp),u.cell (by simp [go_sem]) (by simp),u.cell (by simp [go_sem]) (by simp)⟩
theorem aFm (p:Nod) (lv kv xv uv tv:Value) (left:Int) (w:World) (rl:RdC w.heap.size w lv p.L) (sk:Sl kv p.key.length) (sx:Sl xv p.X.length) (su:Sl uv p.U.length) (rt:RdC w.heap.size w tv p.tail) (h0:0<=left) (h1:left<=1048576) :
  Calls prog 29 #[.agg #[.int .i64 p.k,lv,.bool p.mem,kv,xv,uv,.int .i64 p.C,tv],.int .i64 left] w fun e w'=>e=.returned (.int .i64 (mG p left))/\w.grownBy w' none:=by
 obtain ⟨la,f8,d7,_,_,_⟩:=id rl;obtain ⟨ta,g4,d1,_,_,_⟩:=id rt;obtain ⟨ka,a6,d5,i0,c9⟩:=sk;obtain ⟨xa,Z,d4,h4,d2⟩:=sx;obtain ⟨ua,a5,d3,h7,f3⟩:=su;unfold maxLen at c9 d2 f3;have O:=World.grownBy_alloc w (.cells #[.int .i64 p.k,lv,.bool p.mem,kv,xv,uv,.int .i64 p.C,tv] 66) none;have G:=aB (mV lv p.L left _ ((rl.K O).wide O.size) h0 h1);have HT:=aB (fun W l (h:(w.alloc (.cells #[.int .i64 p.k,lv,.bool p.mem,kv,xv,uv,.int .i64 p.C,tv] 66)).grownBy W none) (a:0<=l) (b:l<=1048576)=>mV tv p.tail l W ((rt.K (aA O h)).wide (aA O h).size) a b);have N:=aB O;have HS:Hid (mG p left=fV (fV (fV (fV (jV p.L left) (szB p.key.length)) (szB p.X.length)) (szB p.U.length)) (jV p.tail)):=rfl;have b1:=vJ p.L left h0 h1;generalize jV p.L left=l1 at G HS b1;subst d7 d1 d5 d4 d3;clear rl rt O
 by_cases c1:l1<0
 ·have E:Hid (mG p left = -1):=(by rw [Hid,HS.out];simp [fV,c1]);clear HS
  go_enter func29,ntmps29
  go_wp2_with fail
  refine G.out.mono ?_;rintro e Y ⟨rfl,j⟩;go_wp2;go_ret;exact ⟨by rw [E.out];rfl,aA N.out j⟩
 have y:Hid (mG p left=fV (fV (fV (szB p.key.length l1) (szB p.X.length)) (szB p.U.length)) (jV p.tail)):=(by rw [Hid,HS.out,sJ c1]);have M:=aB (fun W=>aAb ka p.key.length a6 l1 W (by omega) (by omega) b1.2);have b2:=qG p.key.length l1 b1.2;clear HS;generalize szB p.key.length l1=l2 at M y b2
 by_cases c2:l2<0
 ·have E:Hid (mG p left = -1):=(by rw [Hid,y.out];simp [fV,c2]);clear y
  go_enter func29,ntmps29
  go_wp2_with fail
  refine G.out.mono ?_;rintro e Y ⟨rfl,j⟩;obtain ⟨z0,z1,z2,z3,z4,z5,z6,z7⟩:=mQ j
  go_wp2_with fail
  refine (M.out _).mono ?_;rintro e u ⟨rfl,rfl⟩;go_wp2;go_ret;exact ⟨by rw [E.out];rfl,aA N.out j⟩
 have A:Hid (mG p left=fV (fV (szB p.X.length l2) (szB p.U.length)) (jV p.tail)):=(by rw [Hid,y.out,sJ c2]);have S:=aB (fun W=>xU xa p.X.length Z l2 W (by omega) (by omega) b2.2);have b3:=qG p.X.length l2 b2.2;clear y;generalize szB p.X.length l2=l3 at S A b3
 by_cases c3:l3<0
 ·have E:Hid (mG p left = -1):=(by rw [Hid,A.out];simp [fV,c3]);clear A
  go_enter func29,ntmps29
  go_wp2_with fail
  refine G.out.mono ?_;rintro e Y ⟨rfl,j⟩;obtain ⟨z0,z1,z2,z3,z4,z5,z6,z7⟩:=mQ j
  go_wp2_with fail
  refine (M.out _).mono ?_;rintro e u ⟨rfl,rfl⟩
  go_wp2_with fail
  refine (S.out _).mono ?_;rintro e u ⟨rfl,rfl⟩;go_wp2;go_ret;exact ⟨by rw [E.out];rfl,aA N.out j⟩
 have D:Hid (mG p left=fV (szB p.U.length l3) (jV p.tail)):=(by rw [Hid,A.out,sJ c3]);have HU:=aB (fun W=>aAb ua p.U.length a5 l3 W (by omega) (by omega) b3.2);have b4:=qG p.U.length l3 b3.2;clear A;generalize szB p.U.length l3=l4 at HU D b4
 by_cases c4:l4<0
 ·have E:Hid (mG p left = -1):=(by rw [Hid,D.out];simp [fV,c4]);clear D
  go_enter func29,ntmps29
  go_wp2_with fail
  refine G.out.mono ?_;rintro e Y ⟨rfl,j⟩;obtain ⟨z0,z1,z2,z3,z4,z5,z6,z7⟩:=mQ j
  go_wp2_with fail
  refine (M.out _).mono ?_;rintro e u ⟨rfl,rfl⟩
  go_wp2_with fail
  refine (S.out _).mono ?_;rintro e u ⟨rfl,rfl⟩
  go_wp2_with fail
  refine (HU.out _).mono ?_;rintro e u ⟨rfl,rfl⟩;go_wp2;go_ret;exact ⟨by rw [E.out];rfl,aA N.out j⟩
 have H:Hid (mG p left=jV p.tail l4):=(by rw [Hid,D.out,sJ c4]);have b5:=vJ p.tail l4 (by omega) b4.2;clear D;have J:=aB (fun W h=>HT.out W l4 h (by omega) b4.2);clear HT;generalize jV p.tail l4=l5 at J H b5;have E:Hid (mG p left=l5):=H.out;clear H
 by_cases c5:l5<0
 ·have e5:l5 = -1:=(by omega);subst e5
  go_enter func29,ntmps29
  go_wp2_with fail
  refine G.out.mono ?_;rintro e Y ⟨rfl,j⟩;obtain ⟨z0,z1,z2,z3,z4,z5,z6,z7⟩:=mQ j
  go_wp2_with fail
  refine (M.out _).mono ?_;rintro e u ⟨rfl,rfl⟩
  go_wp2_with fail
  refine (S.out _).mono ?_;rintro e u ⟨rfl,rfl⟩
  go_wp2_with fail
  refine (HU.out _).mono ?_;rintro e u ⟨rfl,rfl⟩
  go_wp2_with fail
  refine (J.out _ j).mono ?_;rintro e u ⟨rfl,g2⟩;go_wp2;go_ret;exact ⟨by rw [E.out];rfl,aA N.out (aA j g2)⟩
 ·go_enter func29,ntmps29
  go_wp2_with fail
  refine G.out.mono ?_;rintro e Y ⟨rfl,j⟩;obtain ⟨z0,z1,z2,z3,z4,z5,z6,z7⟩:=mQ j
  go_wp2_with fail
  refine (M.out _).mono ?_;rintro e u ⟨rfl,rfl⟩
  go_wp2_with fail
  refine (S.out _).mono ?_;rintro e u ⟨rfl,rfl⟩
  go_wp2_with fail
  refine (HU.out _).mono ?_;rintro e u ⟨rfl,rfl⟩
  go_wp2_with fail
  refine (J.out _ j).mono ?_;rintro e u ⟨rfl,g2⟩;go_wp2;go_ret;exact ⟨by rw [E.out];rfl,aA N.out (aA j g2)⟩
theorem aFU (p:Nod) (l:Int) (D:0<=l) (A:l<=1048576) : -1<=mG p l/\mG p l<=1048576:=by
 have h:=vJ p.L l D A;unfold mG;generalize jV p.L l=l1 at h
 have j : -1<=fV l1 (szB p.key.length)/\fV l1 (szB p.key.length)<=1048576:=by
  unfold fV;split
  ·omega
  ·exact qG _ _ h.2
 generalize fV l1 (szB p.key.length)=l2 at j
 have y : -1<=fV l2 (szB p.X.length)/\fV l2 (szB p.X.length)<=1048576:=by
  unfold fV;split
  ·omega
  ·exact qG _ _ j.2
 generalize fV l2 (szB p.X.length)=l3 at y
 have u : -1<=fV l3 (szB p.U.length)/\fV l3 (szB p.U.length)<=1048576:=by
  unfold fV;split
  ·omega
  ·exact qG _ _ y.2
 generalize fV l3 (szB p.U.length)=l4 at u;unfold fV;split
 ·omega
 ·exact vJ _ _ (by omega) u.2
def pT:List Nod->Int->Int
 | [],l=>l
 | p::ps,l=>if mG p l<0 then -1 else pT ps (mG p l)
def qU (doc:List Nod) (left:Int):Int:=if left - doc.length<0 then -1 else pT doc (left - doc.length)
theorem aJ6 (doc:List Nod) (k:Nat) (j:k<doc.length) (l:Int) (h:¬ mG doc[k] l<0):pT (doc.drop k) l=pT (doc.drop (k+1)) (mG doc[k] l):=by
 rw [List.drop_eq_getElem_cons j];simp only [pT];rw [if_neg h]
theorem aIK (doc:List Nod) (k:Nat) (j:k<doc.length) (l:Int) (h:mG doc[k] l<0):pT (doc.drop k) l = -1:=by
 rw [List.drop_eq_getElem_cons j];simp only [pT];rw [if_pos h]
theorem aEy (v:Value) (doc:List Nod) (left:Int) (w:World) (hv:RdN w.heap.size w v doc) (h0:0<=left) (h1:left<=1048576) :
  Calls prog 13 #[v,.int .i64 left] w fun e w'=>e=.returned (.int .i64 (qU doc left))/\w.grownBy w' none:=by
 obtain ⟨a,cap,S,b2,M,_⟩:=id hv;unfold maxLen at M
 by_cases h:left - doc.length<0
 ·have H:Hid (qU doc left = -1):=(by unfold Hid qU;rw [if_pos h]);subst S;clear hv
  go_enter func13,ntmps13
  go_wp2;go_ret;exact ⟨by rw [H.out];rfl,World.grownBy.refl _ _⟩
 ·have H:Hid (qU doc left=pT doc (left - doc.length)):=(by unfold Hid qU;rw [if_neg h]);subst S
  go_enter func13,ntmps13
  go_wp2
  go_loopw [1,5] (fun lf i wr=>∃ (k:Nat) (l:Int),k<=doc.length/\i=.int .i64 k/\lf=.int .i64 l/\0<=l/\l<=1048576/\Hid (pT (doc.drop k) l=qU doc left)/\w.grownBy wr none)
   (fun _ i _=>doc.length - (intOf i).toNat)
  case atStart=>exact ⟨0,left - doc.length,Nat.zero_le _,rfl,by go_num,by omega,by omega,by unfold Hid;rw [H.out];rfl,World.grownBy.refl _ _⟩
  case round=>
   obtain ⟨k,l,hk,rfl,rfl,O,N,G,u⟩:=hrel
   by_cases E:k<doc.length
   ·obtain ⟨b,off,b6,lv,kv,xv,uv,tv,b1,hb,j⟩:=(hv.K u).at k E;cases b1;have z0:=j.k;have z1:=j.L;have z2:=j.mem;have z3:=j.key;have z4:=j.X;have z5:=j.U;have z6:=j.C;have z7:=j.tail;have a8:=aFU doc[k] l O N;have D:=aB (aFm doc[k] lv kv xv uv tv l wr (j.rl.wide u.size) j.sk j.sx j.su (j.rt.wide u.size) O N);obtain ⟨la,b3,a7,_,_⟩:=j.rl.sl;obtain ⟨ta,b7,Z,_,_⟩:=j.rt.sl;obtain ⟨ka,b9,a6,_,_⟩:=j.sk;obtain ⟨xa,b4,a5,_,_⟩:=j.sx;obtain ⟨ua,b8,a4,_,_⟩:=j.su;subst a7 Z a6 a5 a4;have A:=aJ6 doc k E l;have y:=aIK doc k E l;generalize mG doc[k] l=r at a8 D A y
    by_cases hr:r<0
    ·have a9:r = -1:=(by omega);have J:Hid (qU doc left = -1):=(by unfold Hid;rw [<- G.out];exact y hr);subst a9;clear hv j A y H G
     go_wp2_with fail
     refine D.out.mono ?_;rintro e w1 ⟨rfl,Y⟩;go_wp2;go_ret;exact ⟨by rw [J.out];rfl,aA u Y⟩
    ·have J:Hid (pT (doc.drop (k+1)) r=qU doc left):=(by unfold Hid;rw [<- G.out];exact (A hr).symm);clear hv j A y H G
     go_wp2_with fail
     refine D.out.mono ?_;rintro e w1 ⟨rfl,Y⟩;go_wp2
     go_roundw
     case rel=>exact ⟨k+1,r,by omega,by go_num,rfl,by omega,by omega,J,aA u Y⟩
     case measure=>simp [intOf];omega
   ·have b0:k=doc.length:=(by omega);have J:Hid (qU doc left=l):=(by unfold Hid;rw [<- G.out,b0];simp [pT]);clear hv H G;go_wp2;go_ret;exact ⟨by rw [J.out];rfl,u⟩
theorem aGF:∀ (h:List Nod) (l:Int),0<=l->l<=1048576->-1<=pT h l/\pT h l<=1048576
 | [],l,h0,h1=>by simp only [pT];omega
 | p::h,l,h0,h1=>by
   have j:=aFU p l h0 h1;simp only [pT]
   split
   ·omega
   ·exact aGF h _ (by omega) j.2
theorem aJ7 (h:List Nod) (l:Int) (j:0<=l) (u:l<=1048576) : -1<=qU h l/\qU h l<=1048576:=by
 unfold qU
 split
 ·omega
 ·exact aGF h _ (by omega) (by omega)
structure Tre where
 N:List Nod
 tail:List Cm
def dG (B:Nat) (w:World) (nv tv:Value) (t:Tre):Prop:=RdN B w nv t.N/\RdC B w tv t.tail
def aAf (t:Tre) (l:Int):Int:=fV (qU t.N l) (jV t.tail)
theorem aE9 (nv tv:Value) (t:Tre) (left:Int) (w:World) (h:dG w.heap.size w nv tv t) (h0:0<=left) (h1:left<=1048576) :
  Calls prog 4 #[.agg #[nv,tv],.int .i64 left] w fun e w'=>e=.returned (.int .i64 (aAf t left))/\w.grownBy w' none:=by
 obtain ⟨L,U⟩:=h;obtain ⟨na,Z,S,_,_,_⟩:=id L;obtain ⟨ta,u,H,_,_,_⟩:=id U;have D:=World.grownBy_alloc w (.cells #[nv,tv] 25) none;have G:=aB (aEy nv t.N left _ ((L.K D).wide D.size) h0 h1);have X:=aB (fun W l (h:(w.alloc (.cells #[nv,tv] 25)).grownBy W none) (a:0<=l) (b:l<=1048576)=>mV tv t.tail l W ((U.K (aA D h)).wide (aA D h).size) a b);have O:=aB D;have E:Hid (aAf t left=fV (qU t.N left) (jV t.tail)):=rfl;have J:=aJ7 t.N left h0 h1;generalize qU t.N left=l1 at G E J;subst S H;clear L U D
 by_cases c1:l1<0
 ·have HZ:Hid (aAf t left = -1):=by rw [Hid,E.out];simp [fV,c1]
  go_enter func4,ntmps4
  go_wp2_with fail
  refine G.out.mono ?_;rintro e Y ⟨rfl,j⟩;go_wp2;go_ret;exact ⟨by rw [HZ.out];rfl,aA O.out j⟩
 have y:Hid (aAf t left=jV t.tail l1):=(by rw [Hid,E.out,sJ c1]);have b2:=vJ t.tail l1 (by omega) J.2;have A:=aB (fun W h=>X.out W l1 h (by omega) J.2);clear X E;generalize jV t.tail l1=l2 at A y b2
 by_cases c2:l2<0
 ·have e2:l2 = -1:=(by omega);subst e2
  go_enter func4,ntmps4
  go_wp2_with fail
  refine G.out.mono ?_;rintro e Y ⟨rfl,j⟩;have z1:=j.cell (a:=⟨w.heap.size,1,none⟩) (v:=.slice ta t.tail.length u) (by simp [go_sem]) (by simp)
  go_wp2_with fail
  refine (A.out _ j).mono ?_;rintro e w2 ⟨rfl,M⟩;go_wp2;go_ret;exact ⟨by rw [y.out];rfl,aA O.out (aA j M)⟩
 ·go_enter func4,ntmps4
  go_wp2_with fail
  refine G.out.mono ?_;rintro e Y ⟨rfl,j⟩;have z1:=j.cell (a:=⟨w.heap.size,1,none⟩) (v:=.slice ta t.tail.length u) (by simp [go_sem]) (by simp)
  go_wp2_with fail
  refine (A.out _ j).mono ?_;rintro e w2 ⟨rfl,M⟩;go_wp2;go_ret;exact ⟨by rw [y.out];rfl,aA O.out (aA j M)⟩
end Go.Proofs.YtgifkcpdihphlaaGreatDoor
