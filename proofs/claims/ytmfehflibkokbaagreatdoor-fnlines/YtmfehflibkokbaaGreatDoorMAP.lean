import Derived.Test.YtmfehflibkokbaaGreatDoorMAO
set_option maxHeartbeats 16000000
set_option maxRecDepth 100000
namespace Go.Proofs.YtmfehflibkokbaaGreatDoor
open Go.Proofs.Tryz
open Go.RowKit
structure Ctx (B:Nat) (wm:World) (l:List Value) (fb lb nb:Nat) (f0 f1 f2:Value->Option Value):Prop where
 once:lF (fun _=>False) wm l
 flats:∃ n,MapIs wm fb f0 n
 leads:∃ n,MapIs wm lb f1 n
 nums:P.MapIs wm nb f2 (gO l)
 t0:tH B wm l f0 fwV
 t1:tH B wm l f1 ldV
 t2:aEa l l.length f2
def cA (B:Nat) (wm:World) (l:List Value) (v:Value) (T:Tr) (n:Nat):Prop:=
 ∃ pre lT post,l=pre++lT++post/\cS wm v T lT/\Rep (fun _=>False) B wm v T/\n=gO pre
theorem qE (a b:List Value):gO (a++b)=gO a+gO b:=by unfold gO;rw [List.filter_append,List.length_append]
theorem nV {X:Nat->Prop} {B:Nat} {w:World} : ∀ {T:Tr} {v:Value} {l:List Value},Rep X B w v T->cS w v T l->gO l=bV T
 | .leaf p,v,l,hr,hp=>by
   simp only [cS] at hp;subst hp;simp only [Rep] at hr;simp only [bV];rcases hr with h | h | h | h | h | ⟨_,b,tv,h,_⟩
   ·rw [h.2];rfl
   ·rw [h.2];rfl
   ·rw [h.2];rfl
   ·rw [h.2];rfl
   ·rw [h.2];rfl
   ·rw [h];rfl
 | .un p x,v,l,hr,hp=>by
   simp only [Rep] at hr;simp only [cS] at hp;obtain ⟨b0,u0,h3,h4,M,Y,A⟩:=hr;obtain ⟨t,b,u,l1,hv,G,k2,k3,O⟩:=hp
   have D:b=b0:=by
    rcases A with ⟨_,A⟩ | ⟨_,A⟩<;>(rw [hv] at A;simp at A;exact A.2)
   subst D;have Z:u0=u:=(by rw [M] at G;exact Option.some.inj G);subst Z;subst O;rw [qE,nV Y k3];simp only [bV];rcases A with ⟨A,E⟩ | ⟨A,E⟩
   ·rw [E,if_pos A];rfl
   ·rw [E,if_neg (by omega)];rfl
 | .bin p x y,v,l,hr,hp=>by
   simp only [Rep] at hr;simp only [cS] at hp;obtain ⟨b0,u0,a4,h3,h4,M,S,Y,U,A⟩:=hr;obtain ⟨t,b,u,u',l1,l2,hv,G,J,k3,N,O⟩:=hp
   have D:b=b0:=by
    rcases A with ⟨_,A⟩ | ⟨_,A⟩<;>(rw [hv] at A;simp at A;exact A.2)
   subst D;have Z:u0=u:=(by rw [M] at G;exact Option.some.inj G);have a5:a4=u':=(by rw [S] at J;exact Option.some.inj J);subst Z a5;subst O;rw [qE,qE,nV Y k3,nV U N];simp only [bV];have h0:gO [v]=0:=(by rcases A with ⟨_,E⟩ | ⟨_,E⟩<;>(rw [E];rfl));rw [h0];rfl
section
variable {B:Nat} {wm:World} {l:List Value} {v:Value} {T:Tr} {n:Nat}
theorem cA.rep (h:cA B wm l v T n):Rep (fun _=>False) B wm v T:=by
 obtain ⟨_,_,_,_,_,h,_⟩:=h;exact h
theorem cA.mem (h:cA B wm l v T n):v∈l:=by
 obtain ⟨E,J,y,D,G,_,_⟩:=h;obtain ⟨M,A⟩:=G.last;rw [D,A];simp
theorem cA.key (h:cA B wm l v T n) (y:lF (fun _=>False) wm l):NKey wm v:=iZ y h.mem h.rep
theorem cA.un {p:Pc} {x:Tr} (h:cA B wm l v (.un p x) n) :
  ∃ b u,wm.cell? ⟨b,0,none⟩=some u/\cA B wm l u x n/\
   ((p.k=8/\v=sJ b/\∀ f2,aEa l l.length f2->f2 (.pointer (some ⟨b,0,none⟩))=some (.int .i64 ((n+bV x:Nat):Int)))\/(p.k=7/\v=.iface 180 (.pointer (some ⟨b,0,none⟩))/\wm.cell? ⟨b,1,none⟩=some (.int .i64 p.n))):=by
 obtain ⟨y,lT,A,M,Z,N,U⟩:=h;have b1:=N;simp only [Rep] at N;simp only [cS] at Z;obtain ⟨b0,u0,h3,h4,S,Y,D⟩:=N;obtain ⟨t,b,u,E,hv,X,k2,k3,J⟩:=Z
 have O:b=b0:=by
  rcases D with ⟨_,D⟩ | ⟨_,D⟩<;>(rw [hv] at D;simp at D;exact D.2)
 subst O;have hu:u0=u:=(by rw [S] at X;exact Option.some.inj X);subst hu;refine ⟨b,u0,S,⟨y,E,[v]++A,by rw [M,J];simp,k3,Y,U⟩,?_⟩;rcases D with ⟨D,G⟩ | ⟨D,G⟩
 ·refine .inl ⟨D,G,fun f2 hg=>?_⟩
  have hi:l[(y++E).length]?=some (sJ b):=by
   rw [M,J,show y++(E++[v])++A=(y++E)++([v]++A) by simp,List.getElem?_append_right (Nat.le_refl _),G];simp [sJ]
  have:=hg.at_ (y++E).length b (List.getElem?_eq_some_iff.1 hi).1 hi;rw [this]
  have ht:l.take (y++E).length=y++E:=by
   rw [M,J,show y++(E++[v])++A=(y++E)++([v]++A) by simp];exact List.take_left
  rw [ht,qE,nV Y k3,U]
 ·exact .inr ⟨D,G,k2 D⟩
theorem cA.bin {p:Pc} {x y:Tr} (h:cA B wm l v (.bin p x y) n) :
  ∃ b u N,wm.cell? ⟨b,0,none⟩=some u/\wm.cell? ⟨b,1,none⟩=some N/\cA B wm l u x n/\cA B wm l N y (n+bV x)/\
   ((p.k=6/\v=.iface 188 (.pointer (some ⟨b,0,none⟩)))\/(p.k=9/\v=.iface 192 (.pointer (some ⟨b,0,none⟩)))):=by
 obtain ⟨M,lT,A,h1,hp,hr,Z⟩:=h;simp only [Rep] at hr;simp only [cS] at hp;obtain ⟨b0,u0,G,h3,h4,Y,E,h6,S,D⟩:=hr;obtain ⟨t,b,u,N,l1,l2,hv,k1,J,k3,O,k4⟩:=hp
 have X:b=b0:=by
  rcases D with ⟨_,D⟩ | ⟨_,D⟩<;>(rw [hv] at D;simp at D;exact D.2)
 subst X;have hu:u0=u:=(by rw [Y] at k1;exact Option.some.inj k1);have U:G=N:=(by rw [E] at J;exact Option.some.inj J);subst hu U;refine ⟨b,u0,G,Y,E,⟨M,l1,l2++[v]++A,by rw [h1,k4];simp,k3,h6,Z⟩,⟨M++l1,l2,[v]++A,by rw [h1,k4];simp,O,S,?_⟩,D⟩;rw [qE,nV h6 k3,Z]
end
section
variable {B:Nat} {wm:World} {l:List Value} {fb lb nb:Nat} {f0 f1 f2:Value->Option Value}
theorem Ctx.flat (h:Ctx B wm l fb lb nb f0 f1 f2) {v:Value} {T:Tr} {n:Nat} (hv:cA B wm l v T n) {W:World} (y:wm.grownBy W none) :
  (Instr.lookup 100 (.map (some fb)) v false).run prog W=.ok (.int .i64 (flatW T)) W:=by
 obtain ⟨m,A⟩:=h.flats;have:=(A.K y).run_lookup (z:=.int .i64 0) underlying100 rfl ((hv.key h.once).K y);rw [h.t0 v hv.mem T hv.rep] at this;exact this
theorem Ctx.L (h:Ctx B wm l fb lb nb f0 f1 f2) {v:Value} {T:Tr} {n:Nat} (hv:cA B wm l v T n) {W:World} (y:wm.grownBy W none) :
  (Instr.lookup 101 (.map (some lb)) v false).run prog W=.ok (.agg #[.int .i64 (leadT T).1,.bool (leadT T).2]) W:=by
 obtain ⟨m,A⟩:=h.leads;have:=(A.K y).run_lookup (z:=.agg #[.int .i64 0,.bool false]) underlying101 rfl ((hv.key h.once).K y);rw [h.t1 v hv.mem T hv.rep] at this;exact this
theorem Ctx.num (h:Ctx B wm l fb lb nb f0 f1 f2) {b j:Nat} (J:sJ b∈l) (E:f2 (.pointer (some ⟨b,0,none⟩))=some (.int .i64 (j:Int))) {W:World} (y:wm.grownBy W none) :
  (Instr.lookup 102 (.map (some nb)) (.pointer (some ⟨b,0,none⟩)) false).run prog W=.ok (.int .i64 (j:Int)) W:=by
 obtain ⟨_,A,D,G⟩:=h.once.lt _ _ J;have:=(h.nums.K y).run_lookup (z:=.int .i64 0) underlying102 rfl ((P.NKey.ptr b A D G).K y);rw [E] at this;exact this
end
theorem dR {a b:World} {r:Option Nat} (h:a.grownBy b r):a.grownBy b.drew r:=⟨h.os,h.tape,h.output,h.size,h.block⟩
theorem iU {w:World} {a:Addr} {u:Value} (h:w.cell? a=some u):∀ o,(w.alloc o).cell? a=some u:=fun o=>dD o h
theorem aII (B pb:Nat) (wm w:World) (X:pb=wm.heap.size) (l:List Value) (a0 a1 a2 a3 wv tv hv:Value) (ts:List Tk) (tx:List Int) (col:Int) (ch:List Int) (h:Pr pb wm w a0 a1 a2 a3 wv tv hv ts tx col ch)
  (v:Value) (p:Pc) (x:Tr) (n:Nat) (ind:Int) (fl:Bool) (D:Int) (E:Bool) (Y:cA B wm l v (.un p x) n) (hk:p.k=7) (hi:0<=ind/\ind<=4000) (hp:0<=p.n/\p.n<=4000) (hl:ts.length<=1000000) :
  Calls prog 87 #[.pointer (some ⟨pb,0,none⟩),mS v ind fl D E] w fun e w'=>e=.returned (.tuple #[])/\∃ u wv',cA B wm l u x n/\Pr pb wm w' a0 a1 a2 a3 wv' tv hv (ts++[⟨u,x,n,ind+p.n,fl,D,E⟩]) tx col ch:=by
 subst X;obtain ⟨b,u,Z,S,M⟩:=Y.un;rcases M with ⟨h1,_⟩ | ⟨_,U,c1⟩
 ·omega
 have y:=aC h.bel;have a9:=iU (y.cell Z (by simp));have b4:=iU (y.cell c1 (by simp));have J:Hid (∀ o,w.grownBy (w.alloc o).drew.drew none):=fun o=>dR (dR gWA);obtain ⟨O,G,A⟩:=S.rep.form;subst A;subst U;obtain ⟨e1,e2,e3,e4,e5,e6,e7,e8,e9,a7⟩:=pW (.pointer (some ⟨b,0,none⟩));have b3:=h.lt;have HP:=bH h;have HU:=bH S;have hO:=vR 180 O (.pointer (some ⟨b,0,none⟩)) G (ind+p.n) fl D E;have HO:=bH hO;unfold mS at *;clear h Y S Z c1 y hO
 go_enter func87,ntmps87
 go_wp2_with fail
 go_region
 go_wp2_with fail
 go_region_with (first | (go_at_call 118;refine (HO.out _).mono ?_;rintro e w2 ⟨rfl,g2⟩) | (go_at_call 83;refine (jI _ wm w2 _ _ _ _ _ _ _ _ _ _ _ (HP.out.K (aA (J.out _) g2)) ⟨.iface O G,x,n,ind+p.n,fl,D,E⟩ ⟨_,_,rfl⟩ hl).mono ?_;rintro e w3 ⟨rfl,⟨wv',N,_⟩,_,_⟩))
 all_goals
  go_wp2
  go_returns
  exact ⟨rfl,.iface O G,wv',HU.out,N⟩
theorem aJw (B pb:Nat) (wm w:World) (a9:pb=wm.heap.size) (l:List Value) (a0 a1 a2 a3 wv tv hv:Value) (ts:List Tk) (tx:List Int) (col:Int) (ch:List Int) (h:Pr pb wm w a0 a1 a2 a3 wv tv hv ts tx col ch)
  (v:Value) (p:Pc) (x y:Tr) (n:Nat) (ind:Int) (fl:Bool) (O:Int) (S:Bool) (hn:cA B wm l v (.bin p x y) n) (hk:p.k=9) (hl:ts.length<=1000000) :
  Calls prog 87 #[.pointer (some ⟨pb,0,none⟩),mS v ind fl O S] w fun e w'=>e=.returned (.tuple #[])/\∃ u wv',cA B wm l u (if fl then y else x) (if fl then n+bV x else n)/\Pr pb wm w' a0 a1 a2 a3 wv' tv hv (ts++[⟨u,if fl then y else x,if fl then n+bV x else n,ind,fl,O,S⟩]) tx col ch:=by
 subst a9;obtain ⟨b,u,u',c0,c1,hu,E,Y⟩:=hn.bin;rcases Y with ⟨h1,_⟩ | ⟨_,a8⟩
 ·omega
 have G:=aC h.bel;have b8:=iU (G.cell c0 (by simp));have c3:=iU (G.cell c1 (by simp));have U:Hid (∀ o,w.grownBy (w.alloc o).drew none):=fun o=>dR gWA;obtain ⟨tu,X,J⟩:=hu.rep.form;obtain ⟨M,N,A⟩:=E.rep.form;subst J A;subst a8;obtain ⟨e1,e2,e3,e4,e5,e6,e7,e8,e9,b6⟩:=tZ (.pointer (some ⟨b,0,none⟩));have c2:=h.lt;have HP:=bH h;have HU:=bH hu;have Z:=bH E;have HO:=bH (vR 192 tu (.pointer (some ⟨b,0,none⟩)) X ind fl O S);have a6:=bH (vR 192 M (.pointer (some ⟨b,0,none⟩)) N ind fl O S);unfold mS at *;clear h hn hu E c0 c1 G;cases fl
 ·go_enter func87,ntmps87
  go_wp2_with fail
  go_region_with (first | (go_at_call 118;refine (HO.out _).mono ?_;rintro e w2 ⟨rfl,g2⟩) | (go_at_call 83;refine (jI _ wm w2 _ _ _ _ _ _ _ _ _ _ _ (HP.out.K (aA (U.out _) g2)) ⟨.iface tu X,x,n,ind,false,O,S⟩ ⟨_,_,rfl⟩ hl).mono ?_;rintro e w3 ⟨rfl,⟨wv',D,_⟩,_,_⟩))
  all_goals
   go_wp2
   go_returns
   exact ⟨rfl,.iface tu X,HU.out,wv',D⟩
 ·go_enter func87,ntmps87
  go_wp2_with fail
  go_region_with (first | (go_at_call 118;refine (a6.out _).mono ?_;rintro e w2 ⟨rfl,g2⟩) | (go_at_call 83;refine (jI _ wm w2 _ _ _ _ _ _ _ _ _ _ _ (HP.out.K (aA (U.out _) g2)) ⟨.iface M N,y,n+bV x,ind,true,O,S⟩ ⟨_,_,rfl⟩ hl).mono ?_;rintro e w3 ⟨rfl,⟨wv',D,_⟩,_,_⟩))
  all_goals
   go_wp2
   go_returns
   exact ⟨rfl,.iface M N,Z.out,wv',D⟩
end Go.Proofs.YtmfehflibkokbaaGreatDoor
