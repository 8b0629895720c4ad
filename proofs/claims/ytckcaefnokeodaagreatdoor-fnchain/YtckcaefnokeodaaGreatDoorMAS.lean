import Derived.Deep.RegionLaw
import Derived.Test.YtckcaefnokeodaaGreatDoorMAR
set_option maxHeartbeats 16000000
set_option maxRecDepth 100000
namespace Go.Proofs.YtckcaefnokeodaaGreatDoor
open Go.Proofs.Tryz Go.RowKit List World
theorem rD {P:Program} {A} {o:Oper} {a:Act} {w:World} {K:Act->World->Prop} {Q:Exit->Act->World->Prop} {E:Prop} (J:o.guard=none) (s x:Operand) (t:TypeId) (D:o.op=Op.call { callee:=Callee.builtin Builtin.append,args:=#[s,x],argTypes:=#[t,t] }) (v G F:Value) (H:World) (N:a.eval s=v) (M:a.eval x=G) (h:(Builtin.append_ #[t,t] o.type #[v,G]).run P w=.ok F H) (I:K (a.put o.dst F) H):if Region.wanted o (yielded A a.tmps)=true then Oper.wp P o a w K Q else E:=by
 rw [if_pos (show Region.wanted o (yielded A a.tmps)=true by simp [Region.wanted,J])];unfold Oper.wp;simp only [execOp,D,resolve,invoke,builtin,Sem.run_bind,Sem.run_pure,Result.andThen_ok,map_toArray,map_cons,map_nil,N,M,h];exact I
theorem aF7 (w:World) (a b c d e:Value) (t:TypeId):∀ j u,[a,b,c,d,e][j]?=some u->(w.alloc (.cells #[a,b,c,d,e] t)).cell? ((⟨w.heap.size,0,none⟩:Addr).add j)=some u:=by
 intro j u h
 match j,h with
 | 0,h=>simp at h;subst h;simp [Addr.add]
 | 1,h=>simp at h;subst h;simp [Addr.add]
 | 2,h=>simp at h;subst h;simp [Addr.add]
 | 3,h=>simp at h;subst h;simp [Addr.add]
 | 4,h=>simp at h;subst h;simp [Addr.add]
theorem kG (I w0 w a0 a1 a2 a3 wv tv hv D tx b0 ch) (h:Pr I w0 w a0 a1 a2 a3 wv tv hv D tx b0 ch) (t:Tk) (ht:∃ H u,t.v=.iface H u) (hl:D.length<=1000000) :
  Calls prog 67 #[.pointer (some ⟨I,4,none⟩),t.val] w fun e w'=>e=.returned (.tuple #[])/\(∃ S,Pr I w0 w' a0 a1 a2 a3 S tv hv (D++[t]) tx b0 ch/\(S.ownBlock=wv.ownBlock\/∃ g,S.ownBlock=some g/\w.heap.size<=g))/\w.heap.size<=w'.heap.size/\∀ k,k<w.heap.size->k≠I->wv.ownBlock≠some k->w'.heap[k]?=w.heap[k]?:=by
 obtain ⟨i0,hi,b4,c5,b7⟩:=info_parts aIh;obtain ⟨ra,G,c3,_,_⟩:=aZ h.wrow;have c4:=h.c4;have f4:=h.fz 4;have b6:=h.lt;have c1:=ownsRow.lt h.wrow;obtain ⟨H,u,a8⟩:=ht;have HP:=bL h;have a4:t.val=.agg #[.iface H u,.int .i64 t.ind,.bool t.fl,.int .i64 t.bw,.bool t.be]:=(by unfold Tk.val;rw [a8]);rw [a4];have HC:Hid (t.cells=[.iface H u,.int .i64 t.ind,.bool t.fl,.int .i64 t.bw,.bool t.be]):=(by unfold Hid Tk.cells;rw [a8]);have Z:=h.wrow;subst c3;have a6:w.grownBy (w.alloc (.cells #[.iface H u,.int .i64 t.ind,.bool t.fl,.int .i64 t.bw,.bool t.be] 127)) none:=gWA;have a9:(w.alloc (.cells #[.iface H u,.int .i64 t.ind,.bool t.fl,.int .i64 t.bw,.bool t.be] 127)).drew.ownsRow (I+1) 127 5 (.slice ra D.length G) D.length (iA D):=(fT Z a6 (by simp):ownsRow _ (I+1) 127 5 (.slice ra D.length G) D.length (iA D));obtain ⟨v1,w1,M,F,A,_,Y⟩:=run_append_own_at (P:=prog) ((w.alloc (.cells #[.iface H u,.int .i64 t.ind,.bool t.fl,.int .i64 t.bw,.bool t.be] 127)).drew.alloc (.cells #[.iface H u,.int .i64 t.ind,.bool t.fl,.int .i64 t.bw,.bool t.be] 127)) (I+1) 72 72 127 i0 (.agg #[.nilIface,.int .i64 0,.bool false,.int .i64 0,.bool false]) 5 48 underlying72 hi b4 c5 b7 rfl (by decide) (.slice ra D.length G) D.length (iA D) (ownsRow.alloc a9 _) ⟨(w.alloc (.cells #[.iface H u,.int .i64 t.ind,.bool t.fl,.int .i64 t.bw,.bool t.be] 127)).drew.heap.size,0,none⟩ 1 1 [.iface H u,.int .i64 t.ind,.bool t.fl,.int .i64 t.bw,.bool t.be] rfl (aF7 (w.alloc (.cells #[.iface H u,.int .i64 t.ind,.bool t.fl,.int .i64 t.bw,.bool t.be] 127)).drew _ _ _ _ _ _) (by intro u hu;simp at hu;rcases hu with rfl | rfl | rfl | rfl | rfl<;>rfl) (by unfold maxLen;omega) (by omega) (by simp;omega);have N:=M;simp only [alloc_drew,size_alloc,size_drew] at N;have E:w.grownBy ((w.alloc (.cells #[.iface H u,.int .i64 t.ind,.bool t.fl,.int .i64 t.bw,.bool t.be] 127)).drew.alloc (.cells #[.iface H u,.int .i64 t.ind,.bool t.fl,.int .i64 t.bw,.bool t.be] 127)) none:=aA a6 ⟨rfl,rfl,rfl,by simp,fun i hi _=>Below.heap_alloc (w.alloc (.cells #[.iface H u,.int .i64 t.ind,.bool t.fl,.int .i64 t.bw,.bool t.be] 127)).drew _ _ hi⟩;have a5:(Value.slice ra D.length G).ownBlock≠some I:=fun e=>by have:=c1 I e;omega
 have x4:=A.cell (E.cell c4 (by simp)) (fun e=>a5 e.symm);have y4:w1.frozen? ⟨I,4,none⟩=false:=(frozen?_of_block (A.block I (by have:=E.size;omega) (fun e=>a5 e.symm))).trans ((frozen?_of_block (E.block I b6 (by simp))).trans f4);obtain ⟨va,J,c2,_,_⟩:=aZ F;subst c2;have HO:=bL F;have HG:=bL A;have HA:=bL Y;have O:=bL E;clear h a4 a8 M F A Y a6 E a9 Z a5
 go_enter func67,ntmps67
 go_wp2
 go_region_law (refine rD rfl (.tmp 8) (.tmp 10) 72 rfl _ _ _ _ (by simp [Act.eval]) (by simp [Act.eval]) N ?_)
 all_goals
  go_simp
  go_wp2
  go_returns
  have a7:w1.ownsRow (I+1) 127 5 (.slice va (D.length+1) J) (D++[t]).length (iA (D++[t])):=by
   rw [pX,aAC,HC.out,length_append];exact HO.out
  refine ⟨rfl,⟨.slice va (D.length+1) J,?_,?_⟩,?_,?_⟩
  .refine Pr.work (HP.out.K O.out) (wv':=.slice va (D.length+1) J) HG.out a7 ?_;rcases HA.out with e | e
   .exact .inl e
   .exact .inr ⟨_,e,by simp⟩
  .rcases HA.out with e | e
   .exact .inl e
   .exact .inr ⟨_,e,by simp;omega⟩
  .have h1:=O.out.size;have h2:=HG.out.size;simp only [size_setCell];omega
  .intro k hk b9 b8;rw [heap_setCell_other _ _ _ _ (fun e=>b9 (by simpa using e)),HG.out.block k (Nat.lt_of_lt_of_le hk O.out.size) (fun e=>b8 e.symm),O.out.block k hk (by simp)]
theorem aFc (r:List Tk) (t:Tk) (j:Nat) (h:j<5):(iA (r++[t]))[r.length*5+j]?=t.cells[j]?:=by
 rw [pX,getElem?_append_right (by rw [qR];omega),qR,aAC];congr 1;omega
theorem aHQ (E I w Z J N G H O Y S D M) (h:Pr E I w Z J N G H O Y [] S D M) :
  Calls prog 69 #[.pointer (some ⟨E,4,none⟩)] w fun e w'=>e=.returned (.tuple #[.agg #[.nilIface,.int .i64 0,.bool false,.int .i64 0,.bool false],.bool false])/\Pr E I w' Z J N G H O Y [] S D M:=by
 obtain ⟨ra,F,A,_,_⟩:=aZ h.wrow;have c4:=h.c4;have f4:=h.fz 4;have a4:=h.lt;have HP:=bL h;simp only [length_nil] at A;subst A;clear h
 go_enter func69,ntmps69
 go_wp2
 go_returns
 exact ⟨rfl,HP.out.K (aA gWA gWA)⟩
theorem aJc (pb w0 w a0 a1 a2 a3 wv tv hv) (D:List Tk) (t:Tk) (tx J ch) (h:Pr pb w0 w a0 a1 a2 a3 wv tv hv (D++[t]) tx J ch) (ht:∃ tt u,t.v=.iface tt u) (hl:D.length<=1000000) :
  Calls prog 69 #[.pointer (some ⟨pb,4,none⟩)] w fun e w'=>e=.returned (.tuple #[t.val,.bool true])/\∃ M,Pr pb w0 w' a0 a1 a2 a3 M tv hv D tx J ch:=by
 obtain ⟨tt,u,H⟩:=ht;rcases h.wrow.2 with ⟨_,h0⟩ | ⟨g,O,c3,Y,a6,hg,Z,S,N,G⟩
 .simp at h0
 subst Y;have A:=h.wrow;have E:(D++[t]).length=D.length+1:=(by simp);have m0:=ownsRow.cellAt A (D.length*5+0) (by rw [E];omega);have m1:=ownsRow.cellAt A (D.length*5+1) (by rw [E];omega);have m2:=ownsRow.cellAt A (D.length*5+2) (by rw [E];omega);have m3:=ownsRow.cellAt A (D.length*5+3) (by rw [E];omega);have m4:=ownsRow.cellAt A (D.length*5+4) (by rw [E];omega);rw [aFc D t _ (by omega)] at m0 m1 m2 m3 m4;simp only [Tk.cells,getElem?_cons_zero,getElem?_cons_succ,H,Nat.add_zero] at m0 m1 m2 m3 m4;have c4:=h.c4;have f4:=h.fz 4;have c6:=h.lt;have d1:=ownsRow.lt A g rfl;have HP:=bL h;rw [E] at c4 Z;unfold maxLen at S;have F:=aDi A (m:=D.length) (by simp);have e1:(iA (D++[t])).take (D.length*5)=iA D:=(by rw [pX,<- qR D];exact take_left);rw [e1] at F;have I:=bL F;have HV:Hid (t.val=.agg #[.iface tt u,.int .i64 t.ind,.bool t.fl,.int .i64 t.bw,.bool t.be]):=(by unfold Hid Tk.val;rw [H]);clear h A hg N G a6 F e1 H E
 go_enter func69,ntmps69
 go_wp2
 go_returns
 exact ⟨by rw [HV.out],.slice (some ⟨g,0,none⟩) D.length O,(Pr.work HP.out (grownBy.refl _ _) I.out (.inl rfl)).K (aA gWA gWA)⟩
def oA (v:Value) (ind:Int) (fl:Bool) (bw:Int) (be:Bool):Value:=.agg #[v,.int .i64 ind,.bool fl,.int .i64 bw,.bool be]
theorem yG (J A:TypeId) (u H:Value) (h F E D w) :
  Calls prog 111 #[oA (.iface J u) h F E D,.iface A H] w fun e N=>e=.returned (oA (.iface A H) h F E D)/\w.grownBy N none:=by
 unfold oA;have G:∀ (M O:Obj),w.grownBy ((w.alloc M).alloc O) none:=fun _ _=>aA gWA gWA;have I:=bL G;clear G
 go_enter func111,ntmps111
 go_wp2
 go_returns
 exact ⟨rfl,I.out _ _⟩
def brk (T:Tr) (ind:Int) (fl:Bool):Int × Bool:=
 match T with
 | .leaf p=>if p.k=2\/p.k=3 then (ind,!fl) else if p.k=4 then (ind,true) else if p.k=5 then (0,true) else (0,false)
 | _=>(0,false)
theorem aFm (B v T A E Y S w w1) (G:Rep (fun _=>False) B w1 v T) :
  Calls prog 70 #[oA v A E Y S] w fun e Z=>e=.returned (.tuple #[.int .i64 (brk T A E).1,.bool (brk T A E).2])/\w.grownBy Z none:=by
 unfold oA
 have O:(∃ t y,v=.iface t y/\brk T A E=(0,false)/\bF t 165 y (.agg #[])/\bF t 166 y (.agg #[])/\bF t 167 y (.agg #[])/\bF t 168 y (.agg #[]))\/
   (v=.iface 165 (.agg #[])/\brk T A E=(A,!E))\/(v=.iface 166 (.agg #[])/\brk T A E=(A,!E))\/(v=.iface 167 (.agg #[])/\brk T A E=(A,true))\/(v=.iface 168 (.agg #[])/\brk T A E=(0,true)):=by
  cases T with
  | leaf p=>
    simp only [Rep] at G;rcases G with h | h | h | h | h | ⟨F,b,tv,h,_⟩
    .have:=pL;exact .inl ⟨_,_,h.2,by simp [brk,h.1],this.2.2.1,this.2.2.2.1,this.2.2.2.2.1,this.2.2.2.2.2.1⟩
    .exact .inr (.inl ⟨h.2,by simp [brk,h.1]⟩)
    .exact .inr (.inr (.inl ⟨h.2,by simp [brk,h.1]⟩))
    .exact .inr (.inr (.inr (.inl ⟨h.2,by simp [brk,h.1]⟩)))
    .exact .inr (.inr (.inr (.inr ⟨h.2,by simp [brk,h.1]⟩)))
    .have:=rX (.pointer (some ⟨b,0,none⟩));exact .inl ⟨_,_,h,by simp [brk,F],this.2.2.1,this.2.2.2.1,this.2.2.2.2.1,this.2.2.2.2.2.1⟩
  | un p x=>
    simp only [Rep] at G;obtain ⟨b,u,_,_,_,_,h | h⟩:=G
    .have:=pN (.pointer (some ⟨b,0,none⟩));exact .inl ⟨_,_,h.2,rfl,this.2.2.1,this.2.2.2.1,this.2.2.2.2.1,this.2.2.2.2.2.1⟩
    .have:=rB (.pointer (some ⟨b,0,none⟩));exact .inl ⟨_,_,h.2,rfl,this.2.2.1,this.2.2.2.1,this.2.2.2.2.1,this.2.2.2.2.2.1⟩
  | bin p x y=>
    simp only [Rep] at G;obtain ⟨b,u,u',_,_,_,_,_,_,h | h⟩:=G
    .have:=vL (.pointer (some ⟨b,0,none⟩));exact .inl ⟨_,_,h.2,rfl,this.2.2.1,this.2.2.2.1,this.2.2.2.2.1,this.2.2.2.2.2.1⟩
    .have:=xA (.pointer (some ⟨b,0,none⟩));exact .inl ⟨_,_,h.2,rfl,this.2.2.1,this.2.2.2.1,this.2.2.2.2.1,this.2.2.2.2.2.1⟩
 have H:Hid (∀ (o:Obj),w.grownBy (w.alloc o) none):=fun _=>gWA;rcases O with ⟨t,y,F,D,N,J,I,M⟩ | ⟨F,D⟩ | ⟨F,D⟩ | ⟨F,D⟩ | ⟨F,D⟩
 .rw [D];subst F;clear G D
  go_enter func70,ntmps70
  go_wp2;go_ret2;exact ⟨rfl,H.out _⟩
 .obtain ⟨f1,f2,N,J,I,M,_⟩:=rI;rw [D];subst F;clear G D;cases E
  all_goals
   go_enter func70,ntmps70
   go_wp2
   go_quiet (fail)
   go_wp2;go_ret2;exact ⟨rfl,cA (H.out _) _⟩
 .obtain ⟨f1,f2,N,J,I,M,_⟩:=rY;rw [D];subst F;clear G D;cases E
  all_goals
   go_enter func70,ntmps70
   go_wp2
   go_quiet (fail)
   go_wp2;go_ret2;exact ⟨rfl,cA (H.out _) _⟩
 .obtain ⟨f1,f2,N,J,I,M,_⟩:=wH;rw [D];subst F;clear G D
  go_enter func70,ntmps70
  go_wp2;go_ret2;exact ⟨rfl,H.out _⟩
 .obtain ⟨f1,f2,N,J,I,M,_⟩:=zR;rw [D];subst F;clear G D
  go_enter func70,ntmps70
  go_wp2;go_ret2;exact ⟨rfl,H.out _⟩
theorem aB1 (G w0 w a0 a1 a2 a3 wv tv hv ts J a6 ch) (h:Pr G w0 w a0 a1 a2 a3 wv tv hv ts J a6 ch) (E:Int) (f7:0<=E) (g0:E<=4000) (hl:J.length<=600000000) :
  Calls prog 68 #[.pointer (some ⟨G,0,none⟩),.int .i64 E] w fun e w'=>e=.returned (.tuple #[])/\∃ D,Pr G w0 w' a0 a1 a2 a3 wv D hv ts (J++replicate E.toNat 32) E ch:=by
 obtain ⟨i0,hi,b1,c4,b5⟩:=info_parts mA;have HP:=bL h;obtain ⟨m,hm⟩:∃ m:Nat,E=(m:Int):=⟨E.toNat,by omega⟩;subst hm;rw [Int.toNat_natCast];clear h
 go_enter func68,ntmps68
 go_wp2
 go_loopw [5] (fun i wr=>∃ (k:Nat) (D:Value),k<=m/\i=.int .i64 k/\Pr G w0 wr a0 a1 a2 a3 wv D hv ts (J++replicate k 32) a6 ch) (fun i _=>m - (intOf i).toNat)
 case atStart=>exact ⟨0,tv,Nat.zero_le _,rfl,by simpa using HP.out⟩
 case round=>
  obtain ⟨k,D,hk,rfl,H⟩:=hrel;have HQ:=bL H;have c5:=H.c5;have f5:=H.fz 5;have c6:=H.c6;have f6:=H.fz 6;have b4:=H.lt;have c2:=ownsRow.lt H.trow
  by_cases d9:k<m
  .obtain ⟨ta,d1,b0,_,_⟩:=aZ H.trow;have d4:(J++replicate k 32).length<=600004000:=(by simp;omega);have Y:J++replicate (k+1) 32=(J++replicate k 32)++[32]:=(by rw [replicate_succ',append_assoc]);have F:wr.grownBy (wr.alloc (.cells #[.int .u8 32] 5)) none:=gWA;have a4:D.ownBlock≠some G:=fun e=>by have:=c2 G e;omega
   have a5:=bL a4;have N:wr.ownsRow (G+1) 5 1 D (J++replicate k 32).length ((J++replicate k 32).map (Value.int .u8)):=H.trow;have S:=bL N;have c7:=F.cell c5 (by simp);have a9:(wr.alloc (.cells #[.int .u8 32] 5)).frozen? ⟨G,5,none⟩=false:=(frozen?_of_block (F.block G b4 (by simp))).trans f5;have a7:=bL F;have b6:=bL Y;subst b0;clear a4 H Y c6 f6 N F;generalize hX:J++replicate k 32=X at *;clear hX
   go_wp2_with (at_builtin;refine wpList_append_own_at _ rfl _ _ 22 rfl (G+1) 5 i0 (.int .u8 0) 1 1 underlying22 hi b1 c4 b5 rfl (by decide) _ _ _ rfl (ownsRow.alloc S.out _) ⟨wr.heap.size,0,none⟩ 1 1 [.int .u8 32] rfl rfl (qS _ _ _) (by intro u hu;simp at hu;subst hu;rfl) (by unfold maxLen;omega) (by omega) (by simp;omega) ?_;intro v1 w1 I A _ O;have x5:=A.cell c7 (fun e=>a5.out e.symm);have y5:w1.frozen? ⟨G,5,none⟩=false:=(frozen?_of_block (A.block G (by simp;omega) (fun e=>a5.out e.symm))).trans a9;obtain ⟨va,M,c1,_,_⟩:=aZ I;subst c1)
   go_roundw
   case rel=>
    refine ⟨k+1,.slice va (X.length+1) M,by omega,by go_num,?_⟩;rw [b6.out];refine Pr.X (HQ.out.K a7.out) (tv':=.slice va (X.length+1) M) A ?_ ?_
    .unfold OwB Ow;rw [map_append,length_append];exact I
    .rcases O with e | e
     .exact .inl e
     .exact .inr ⟨_,e,by simp⟩
   case measure=>simp [intOf];omega
  .have Z:k=m:=(by omega);subst Z;clear H;go_wp2
   go_returns
   exact ⟨rfl,D,HQ.out.column _⟩
theorem aEr (H N w a0 O) (nb:Nat) (I M Z) (g D l:Nat) (S tx G A) (h:Pr H N w a0 O (.map (some nb)) I M Z (.slice (some ⟨g,0,none⟩) l D) S tx G A) (b:Nat) (J:Bool) (j:Nat) (hL:∀ W,w.grownBy W none->(Instr.lookup 71 (.map (some nb)) (.pointer (some ⟨b,0,none⟩)) false).run prog W=.ok (.int .i64 (j:Int)) W) (hl:l=A.length) (hj:j<A.length) (b2:A.length<=1000000) :
  Calls prog 113 #[.pointer (some ⟨H,0,none⟩),.pointer (some ⟨b,0,none⟩),.bool J] w fun e Y=>e=.returned (.tuple #[])/\Pr H N Y a0 O (.map (some nb)) I M Z (.slice (some ⟨g,0,none⟩) l D) S tx G (A.set j (if J then 1 else 2))/\Y.heap.size=w.heap.size/\∀ k,k≠g->Y.heap[k]?=w.heap[k]?:=by
 have c2:=h.c2;have c7:=h.c7;have hD:=hL w.drew ⟨rfl,rfl,rfl,Nat.le_refl _,fun _ _ _=>rfl⟩;have HP:=bL h;obtain ⟨x,hx⟩:∃ x,A[j]?=some x:=⟨_,getElem?_eq_getElem hj⟩;subst hl;have F:OwI (H+1) w (.slice (some ⟨g,0,none⟩) A.length D) A:=h.hrow;have h2:w.ownsRow (H+1) 3 1 (.slice (some ⟨g,0,none⟩) A.length D) A.length (A.map (Value.int .i64)):=F;have hc:=ownsRow.cellAt h2 j (by omega);rw [getElem?_map,hx] at hc;simp only [Option.map_some] at hc;have hf:=ownsRow.frozenAt h2 j;have E:Hid (∀ x,Pr H N (w.setCell ⟨g,j,none⟩ (.int .i64 x)).drew a0 O (.map (some nb)) I M Z (.slice (some ⟨g,0,none⟩) A.length D) S tx G (A.set j x)):=fun x=>(h.choice rfl j x).K ⟨rfl,rfl,rfl,Nat.le_refl _,fun _ _ _=>rfl⟩;have b1:IntKind.i64.wrap (j:Int)=(j:Int):=(by simp [IntKind.wrap,IntKind.bits,IntKind.signed];omega);clear h F h2 hx hL;cases J
 .go_enter func113,ntmps113
  go_wp2
  go_region
  all_goals
   go_wp2
   go_returns
   exact ⟨rfl,E.out 2,by simp,fun k hk=>heap_setCell_other w ⟨g,j,none⟩ k _ (fun e=>hk (by simpa using e))⟩
 .go_enter func113,ntmps113
  go_wp2
  go_region
  all_goals
   go_wp2
   go_returns
   exact ⟨rfl,E.out 1,by simp,fun k hk=>heap_setCell_other w ⟨g,j,none⟩ k _ (fun e=>hk (by simpa using e))⟩
theorem aCW (D:Nat) (h g A:Int) (w:World) (F:w.cell? ⟨D,0,none⟩=some (.int .i64 h)) :
  Calls prog 27 #[.int .i64 g,.int .i64 A,.pointer (some ⟨D,0,none⟩)] w fun e E=>e=.returned (.bool (decide (A<=h)))/\w=E:=by
 go_enter func27,ntmps27
 go_wp2;go_ret;exact ⟨rfl,rfl⟩
theorem aDy (args) (W:World):(callFunc 27 args).run prog W=.ok (.enter 27 args) W:=by kernel_rfl
def kN (fw col bw:Int) (d:Int->Bool):Bool:=if fw = -1 then false else d (col+fw+bw)
theorem aEd (pb w0 w) (fb nb S:Nat) (a1) (I:Value) (wv tv hv ts tx A ch) (h:Pr pb w0 w (.map (some fb)) a1 (.map (some nb)) (.func (.func S) #[] #[I]) wv tv hv ts tx A ch) (b:Nat) (E:Int) (N:Bool) (D:Int) (Y:∀ W,w.grownBy W none->(Instr.lookup 69 (.map (some fb)) (.iface 177 (.pointer (some ⟨b,0,none⟩))) false).run prog W=.ok (.int .i64 D) W) (j:Nat) (hL:∀ W,w.grownBy W none->(Instr.lookup 71 (.map (some nb)) (.pointer (some ⟨b,0,none⟩)) false).run prog W=.ok (.int .i64 (j:Int)) W) (d:Int->Bool) (hC:∀ W,w.grownBy W none->Calls prog S #[.int .i64 (j:Int),.int .i64 (A+D+E),I] W fun e M=>e=.returned (.bool (d (A+D+E)))/\W=M) (hE:∀ (args:Array Value) (W:World),(callFunc S args).run prog W=.ok (.enter S args) W) (a9 : -1<=D/\D<=1000000) (a5 : -1000000<=A/\A<=1000000) (b6 : -1000000<=E/\E<=1000000) :
  Calls prog 112 #[.pointer (some ⟨pb,0,none⟩),.pointer (some ⟨b,0,none⟩),.agg #[.int .i64 E,.bool N]] w fun e M=>e=.returned (.bool (kN D A E d))/\w.grownBy M none:=by
 have F:w.grownBy (w.alloc (.cells #[.int .i64 E,.bool N] 125)) none:=gWA;have H:∀ q,w.grownBy ((w.alloc (.cells #[.int .i64 E,.bool N] 125)).drewN q) none:=fun q=>cA F q;have O:=bL H;have c0:=F.cell h.c0 (by simp);have c2:=F.cell h.c2 (by simp);have c3:=F.cell h.c3 (by simp);have c6:=F.cell h.c6 (by simp);have a8:=h.lt;have hA:=Y _ F;have b9:∀ q,_:=fun q=>hL _ (H q)
 have J:∀ q,Calls prog S #[.int .i64 (j:Int),.int .i64 (A+D+E),I] ((w.alloc (.cells #[.int .i64 E,.bool N] 125)).drewN q) fun e M=>e=.returned (.bool (d (A+D+E)))/\M=(w.alloc (.cells #[.int .i64 E,.bool N] 125)).drewN q:=
  fun q=>(hC _ (H q)).mono fun e M h=>⟨h.1,h.2.symm⟩
 have Z:=bL J
 by_cases G:D = -1
 .have HR:Hid (kN D A E d=false):=(by unfold Hid kN;rw [if_pos G]);have e1:(D != -1)=false:=(by rw [G];rfl);clear h Y hL hC F H J G
  go_enter func112,ntmps112
  go_wp2_with fail
  go_quiet (fail)
  go_wp2;go_ret;exact ⟨by rw [HR.out];rfl,O.out _⟩
 .have HR:Hid (kN D A E d=d (A+D+E)):=(by unfold Hid kN;rw [if_neg G]);have e1:(D != -1)=true:=(by simpa using G);have b7:IntKind.i64.wrap (A+D)=A+D:=(by simp [IntKind.wrap,IntKind.bits,IntKind.signed];omega);have b0:IntKind.i64.wrap (A+D+E)=A+D+E:=(by simp [IntKind.wrap,IntKind.bits,IntKind.signed];omega);clear h Y hL hC F H J G
  go_enter func112,ntmps112
  go_wp2_with fail
  go_quiet (refine Calls.quiet_of_same (Z.out _))
  go_wp2;go_ret;exact ⟨by rw [HR.out];rfl,O.out _⟩
structure Ctx (B:Nat) (wm:World) (l:List Value) (fb lb nb:Nat) (f0 f1 f2:Value->Option Value):Prop where
 once:lY (fun _=>False) wm l
 flats:∃ n,MapIs wm fb f0 n
 leads:∃ n,MapIs wm lb f1 n
 nums:P.MapIs wm nb f2 (gO l)
 t0:uJ B wm l f0 fwV
 t1:uJ B wm l f1 ldV
 t2:aFp l l.length f2
def cH (B:Nat) (wm:World) (l:List Value) (v:Value) (T:Tr) (n:Nat):Prop:=
 ∃ pre lT post,l=pre++lT++post/\cU wm v T lT/\Rep (fun _=>False) B wm v T/\n=gO pre
theorem sG (a b:List Value):gO (a++b)=gO a+gO b:=by unfold gO;rw [filter_append,length_append]
theorem nH {X:Nat->Prop} {B:Nat} {w:World} : ∀ {T:Tr} {v:Value} {l:List Value},Rep X B w v T->cU w v T l->gO l=aP T
 | .leaf p,v,l,hr,hp=>by
   simp only [cU] at hp;subst hp;simp only [Rep] at hr;simp only [aP];rcases hr with h | h | h | h | h | ⟨_,b,tv,h,_⟩
   .rw [h.2];rfl
   .rw [h.2];rfl
   .rw [h.2];rfl
   .rw [h.2];rfl
   .rw [h.2];rfl
   .rw [h];rfl
 | .un p x,v,l,hr,hp=>by
   simp only [Rep] at hr;simp only [cU] at hp;obtain ⟨b0,u0,h3,h4,J,S,A⟩:=hr;obtain ⟨t,b,u,l1,Y,F,k2,k3,H⟩:=hp
   have D:b=b0:=by
    rcases A with ⟨_,A⟩ | ⟨_,A⟩<;>(rw [Y] at A;simp at A;exact A.2)
   subst D;have I:u0=u:=(by rw [J] at F;exact Option.some.inj F);subst I;subst H;rw [sG,nH S k3];simp only [aP];rcases A with ⟨A,E⟩ | ⟨A,E⟩
   .rw [E,if_pos A];rfl
   .rw [E,if_neg (by omega)];rfl
 | .bin p x y,v,l,hr,hp=>by
   simp only [Rep] at hr;simp only [cU] at hp;obtain ⟨b0,u0,N,h3,h4,J,M,S,Z,A⟩:=hr;obtain ⟨t,b,u,u',l1,l2,Y,F,G,k3,a0,H⟩:=hp
   have D:b=b0:=by
    rcases A with ⟨_,A⟩ | ⟨_,A⟩<;>(rw [Y] at A;simp at A;exact A.2)
   subst D;have I:u0=u:=(by rw [J] at F;exact Option.some.inj F);have O:N=u':=(by rw [M] at G;exact Option.some.inj G);subst I O;subst H;rw [sG,sG,nH S k3,nH Z a0];simp only [aP];have h0:gO [v]=0:=(by rcases A with ⟨_,E⟩ | ⟨_,E⟩<;>(rw [E];rfl));rw [h0];rfl
section
variable {B:Nat} {wm:World} {l:List Value} {v:Value} {T:Tr} {n:Nat}
theorem cH.rep (h:cH B wm l v T n):Rep (fun _=>False) B wm v T:=by
 obtain ⟨_,_,_,_,_,h,_⟩:=h;exact h
theorem cH.mem (h:cH B wm l v T n):v∈l:=by
 obtain ⟨E,H,A,D,F,_,_⟩:=h;obtain ⟨I,G⟩:=F.last;rw [D,G];simp
theorem cH.key (h:cH B wm l v T n) (A:lY (fun _=>False) wm l):NKey wm v:=jS A h.mem h.rep
theorem cH.un {p:Pc} {x:Tr} (h:cH B wm l v (.un p x) n) :
  ∃ b u,wm.cell? ⟨b,0,none⟩=some u/\cH B wm l u x n/\
   ((p.k=8/\v=uO b/\∀ f2,aFp l l.length f2->f2 (.pointer (some ⟨b,0,none⟩))=some (.int .i64 ((n+aP x:Nat):Int)))\/(p.k=7/\v=.iface 172 (.pointer (some ⟨b,0,none⟩))/\wm.cell? ⟨b,1,none⟩=some (.int .i64 p.n))):=by
 obtain ⟨A,lT,D,J,Z,I,N⟩:=h;have a3:=I;simp only [Rep] at I;simp only [cU] at Z;obtain ⟨b0,u0,h3,h4,O,h6,E⟩:=I;obtain ⟨t,b,u,F,hv,Y,k2,k3,H⟩:=Z
 have M:b=b0:=by
  rcases E with ⟨_,E⟩ | ⟨_,E⟩<;>(rw [hv] at E;simp at E;exact E.2)
 subst M;have hu:u0=u:=(by rw [O] at Y;exact Option.some.inj Y);subst hu;refine ⟨b,u0,O,⟨A,F,[v]++D,by rw [J,H];simp,k3,h6,N⟩,?_⟩;rcases E with ⟨E,G⟩ | ⟨E,G⟩
 .refine .inl ⟨E,G,fun f2 hg=>?_⟩
  have S:l[(A++F).length]?=some (uO b):=by
   rw [J,H,show A++(F++[v])++D=(A++F)++([v]++D) by simp,getElem?_append_right (Nat.le_refl _),G];simp [uO]
  have:=hg.at_ (A++F).length b (List.getElem?_eq_some_iff.1 S).1 S;rw [this]
  have ht:l.take (A++F).length=A++F:=by
   rw [J,H,show A++(F++[v])++D=(A++F)++([v]++D) by simp];exact take_left
  rw [ht,sG,nH h6 k3,N]
 .exact .inr ⟨E,G,k2 E⟩
theorem cH.bin {p:Pc} {x y:Tr} (h:cH B wm l v (.bin p x y) n) :
  ∃ b u I,wm.cell? ⟨b,0,none⟩=some u/\wm.cell? ⟨b,1,none⟩=some I/\cH B wm l u x n/\cH B wm l I y (n+aP x)/\
   ((p.k=6/\v=.iface 180 (.pointer (some ⟨b,0,none⟩)))\/(p.k=9/\v=.iface 184 (.pointer (some ⟨b,0,none⟩)))):=by
 obtain ⟨E,lT,A,h1,hp,hr,Y⟩:=h;simp only [Rep] at hr;simp only [cU] at hp;obtain ⟨b0,u0,H,h3,h4,Z,G,h6,N,D⟩:=hr;obtain ⟨t,b,u,I,l1,l2,hv,k1,F,k3,O,S⟩:=hp
 have M:b=b0:=by
  rcases D with ⟨_,D⟩ | ⟨_,D⟩<;>(rw [hv] at D;simp at D;exact D.2)
 subst M;have hu:u0=u:=(by rw [Z] at k1;exact Option.some.inj k1);have J:H=I:=(by rw [G] at F;exact Option.some.inj F);subst hu J;refine ⟨b,u0,H,Z,G,⟨E,l1,l2++[v]++A,by rw [h1,S];simp,k3,h6,Y⟩,⟨E++l1,l2,[v]++A,by rw [h1,S];simp,O,N,?_⟩,D⟩;rw [sG,nH h6 k3,Y]
end
section
variable {B:Nat} {wm:World} {l:List Value} {fb lb nb:Nat} {f0 f1 f2:Value->Option Value}
theorem Ctx.flat (h:Ctx B wm l fb lb nb f0 f1 f2) {v:Value} {T:Tr} {n:Nat} (A:cH B wm l v T n) {W:World} (D:wm.grownBy W none) :
  (Instr.lookup 69 (.map (some fb)) v false).run prog W=.ok (.int .i64 (flatW T)) W:=by
 obtain ⟨m,E⟩:=h.flats;have:=(E.K D).run_lookup (z:=.int .i64 0) underlying69 rfl ((A.key h.once).K D);rw [h.t0 v A.mem T A.rep] at this;exact this
theorem Ctx.L (h:Ctx B wm l fb lb nb f0 f1 f2) {v:Value} {T:Tr} {n:Nat} (A:cH B wm l v T n) {W:World} (D:wm.grownBy W none) :
  (Instr.lookup 70 (.map (some lb)) v false).run prog W=.ok (.agg #[.int .i64 (leadT T).1,.bool (leadT T).2]) W:=by
 obtain ⟨m,E⟩:=h.leads;have:=(E.K D).run_lookup (z:=.agg #[.int .i64 0,.bool false]) underlying70 rfl ((A.key h.once).K D);rw [h.t1 v A.mem T A.rep] at this;exact this
theorem Ctx.num (h:Ctx B wm l fb lb nb f0 f1 f2) {b j:Nat} (F:uO b∈l) (E:f2 (.pointer (some ⟨b,0,none⟩))=some (.int .i64 (j:Int))) {W:World} (A:wm.grownBy W none) :
  (Instr.lookup 71 (.map (some nb)) (.pointer (some ⟨b,0,none⟩)) false).run prog W=.ok (.int .i64 (j:Int)) W:=by
 obtain ⟨_,G,D,H⟩:=h.once.lt _ _ F;have:=(h.nums.K A).run_lookup (z:=.int .i64 0) underlying71 rfl ((P.NKey.ptr b G D H).K A);rw [E] at this;exact this
end
end Go.Proofs.YtckcaefnokeodaaGreatDoor
