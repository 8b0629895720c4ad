import Derived.Test.YtmfehflibkokbaaGreatDoorCards
import Derived.Test.YtmfehflibkokbaaGreatDoorTie
import Derived.ProofKit
import Derived.OpenShut
import Derived.WalkSmall
import Derived.Deep.DeepHandedRow
import Derived.Lib.LaidTab
import Derived.Shelf.Vars
import Derived.Test.YtmfehflibkokbaaGreatDoorMBU
set_option maxHeartbeats 16000000
set_option maxRecDepth 100000
namespace Go.Proofs.YtmfehflibkokbaaGreatDoor.fnLines
open Go.Proofs.Tryz
open Go.ChangeShapes Go.WideShapes Go.ChangeAt Go.RowKit
theorem own:ownKnob prog.godebug=none:=by kernel_rfl
theorem aKh:laidOutB prog=true:=by kernel_rfl
theorem aCP : prog.globalNamed "loop.example/s02863/impl.formEnds" = some 0 := by kernel_rfl
theorem aDt:(prog.globals[0]?).map (·.type)=some 227:=by kernel_rfl
theorem aLg:prog.cellsOf 227=5:=by kernel_rfl
theorem aKN:prog.cellsOf 21=1:=by kernel_rfl
theorem one : (Rows.fnLinesRow.laid.filter fun x => x.1 == "loop.example/s02863/impl.formEnds") = [("loop.example/s02863/impl.formEnds", Lib.tabData .i32 [0, 128, 2048, 65536, 2097152])] := by kernel_rfl
theorem aMb {W : World} (h : laidMetH prog Rows.fnLinesRow.laid W) : Lib.TabIs prog W "loop.example/s02863/impl.formEnds" .i32 [0, 128, 2048, 65536, 2097152] :=
 Lib.tabIs_of_head (rest := []) aCP aDt underlying227 underlying21 aKN aLg (one ▸ laidMetH.filter (fun x => x.1 == "loop.example/s02863/impl.formEnds") h)
theorem aLy {W : World} (h : Lib.TabIs prog W "loop.example/s02863/impl.formEnds" .i32 [0, 128, 2048, 65536, 2097152]) : Tab W :=
 ⟨h.cell aCP 0 (by decide),h.cell aCP 1 (by decide),h.cell aCP 2 (by decide),h.cell aCP 3 (by decide),h.cell aCP 4 (by decide)⟩
theorem aIa {H:Type} (enc:TypeId × Value->H) (W:World) (h:Nat->Bool) :
  DataW.trod enc prog W 0 h true 3 227 ([0,128,2048,65536,2097152].map fun z=>Value.int .i32 z)=some (.agg [.lit (.int .i32 0),.lit (.int .i32 128),.lit (.int .i32 2048),.lit (.int .i32 65536),.lit (.int .i32 2097152)],[]):=by kernel_rfl
theorem aE9 {H : Type} (enc : TypeId × Value → H) {W : World} (y : Nat → Bool) (h : Lib.TabIs prog W "loop.example/s02863/impl.formEnds" .i32 [0, 128, 2048, 65536, 2097152]) :
  DataW.TrodVars enc prog W y ["loop.example/s02863/impl.formEnds"] [.agg [.lit (.int .i32 0), .lit (.int .i32 128), .lit (.int .i32 2048), .lit (.int .i32 65536), .lit (.int .i32 2097152)]] (MemPlace.row ⟨0, 0, none⟩ 5 ++ []) :=
 trodVars_mk1 (fuel:=3) aCP aDt h (by simpa using aIa enc W y)
theorem aMi (a0:Option Addr) (A y:Nat) (G:List Int) (w:World)
  (w0:(a0=none/\A=0/\y=0/\G=[])\/
   ∃ x,a0=some x/\A<=y/\y<=maxLen/\G.length=y/\(∀ i,i<G.length->w.cell? (x.add i)=some (.int .u8 (G.getD i 0)))/\∀ n∈G,(Lit.int .u8 n).wf=true) (m:Int) (O:Tab w) (S:w.cell? ⟨1,0,none⟩=some (.int .i64 m)) :
  Calls prog 3 #[.slice a0 A y] w fun e w'=>e=.returned (.bool true)/\Below w.heap.size w w':=by
 rcases w0 with ⟨rfl,rfl,rfl,rfl⟩ | ⟨x,rfl,X,U,M,E,N⟩
 ·exact aA7 none 0 [] m w ⟨none,0,rfl,fun h=>absurd rfl h⟩ (fun z M=>absurd M (by simp)) (by simp) (by simp) O S
 ·unfold maxLen at U;obtain ⟨ys,J⟩:∃ ys,ys=G.take A:=⟨_,rfl⟩;have D:ys.length=A:=(by rw [J,List.length_take_of_le (by omega)]);rw [<- D];exact aA7 (some x) y ys m w (aGs x ys G A y w J D (by omega) E) (fun z M=>bounds_u8 (N z (by rw [J] at M;exact List.mem_of_mem_take M))) (by omega) (by omega) O S
theorem aHI (H:Type) (enc:TypeId × Value->H) (W:World) (base:Nat) (args:Array Value) (ds gs:List (DataW H)) (E:List MemPlace)
  (G:∀ (j:Nat) t v,Tryz.f3.params[j]?=some t->args[j]?=some v->Value.okWide prog W .any base t v)
  (hW:DataW.Whole enc prog Tryz.f3.params.toList Rows.fnLinesSpec.vars false W args.toList ds gs E) (hL:laidMetH prog Rows.fnLinesRow.laid W) (hS:W.ShapedOpen prog) :
  Calls prog 3 args W fun e U=>∃ v,e=.returned v/\Rows.fnLinesSpec.post enc prog Tryz.f3 false true false false W args v U:=by
 have Y:=hW;obtain ⟨p,q,O,hV,rfl,c5,c1⟩:=hW;have hA:DataW.TrodAll enc prog W 0 (fun _=>true) true Tryz.f3.params.toList args.toList ds p:=O;rw [params3] at hA G;obtain ⟨v0,c3,d0,b9,p0,q0,Z,rfl,rfl,h0,r0⟩:=trodAll_cons hA;obtain ⟨rfl,rfl,rfl⟩:=trodAll_nil r0;obtain rfl:args=#[v0]:=(by cases args;simp_all);have M:=aMb hL;obtain ⟨rfl,rfl⟩:=hV.unique (aE9 enc _ M);obtain ⟨a0,D,y,rfl⟩:=okWide_slice underlying22 (G 0 22 v0 rfl rfl);have k0:=h0;have S:∀ x∈p0,x.block<W.heap.size:=by obtain ⟨m,hm⟩:=k0;exact DataW.trod_lt m _ _ _ hm
 obtain ⟨z0,w0⟩:∃ zs,(a0=none/\D=0/\y=0/\zs=[])\/
   ∃ x,a0=some x/\D<=y/\y<=maxLen/\zs.length=y/\(∀ i,i<zs.length->W.cell? (x.add i)=some (.int .u8 (zs.getD i 0)))/\∀ n∈zs,(Lit.int .u8 n).wf=true:=by
  obtain ⟨fuel,hf⟩:=h0;rcases open_ints underlying22 underlying5 (by kernel_rfl) hf with ⟨A,_⟩ | ⟨x,l,c,zs,A,_,hl,hm,hz,_,J,X⟩
  ·simp [Value.cells] at A;obtain ⟨rfl,rfl,rfl⟩:=A;exact ⟨[],.inl ⟨rfl,rfl,rfl,rfl⟩⟩
  ·simp [Value.cells] at A;obtain ⟨rfl,rfl,rfl⟩:=A;exact ⟨zs,.inr ⟨_,rfl,hl,hm,by simpa using hz,J,X⟩⟩
 clear O;have hT:=aLy M;obtain ⟨m,hM⟩:=cell_of_shapedOpen_int (P:=prog) (g:=1) (t:=3) (zero:=#[.int .i64 0]) hS (of_decide_eq_true (by kernel_rfl)) (by kernel_rfl) rfl (by kernel_rfl) (by kernel_rfl) underlying3;refine (aMi a0 D y z0 W w0 m hT hM).mono fun e U ⟨he,bel⟩=>?_;subst he;have N : Lib.TabIs prog U "loop.example/s02863/impl.formEnds" .i32 [0, 128, 2048, 65536, 2097152] := var?_below bel aCP hT.pos M
 exact ⟨_,rfl,_,_,_,[],_,_,Y,trodAll_mk1 (shut_bool underlying4 _),(trodAll_cons_mk (Below.trod aKh (by kernel_rfl) (of_decide_eq_true (by kernel_rfl)) k0 bel S) trodAll_mk0),aE9 enc _ N,bel.frame _,fun h=>by cases h⟩
noncomputable def firstCells:Array Value:=(Go.Pinned.utf8FirstZ.map fun (z:Nat)=>Value.int .u8 z).toArray
noncomputable def aDe:Array Value:=(([128,191,160,191,128,159,144,191,128,143]++List.replicate 22 0:List Int).map fun z=>Value.int .u8 z).toArray
noncomputable def lay (o:Obj) (cs:Array Value):Obj:=match o with
 | .cells _ t frozen=>.cells cs t frozen
 | o=>o
noncomputable def vZ (os:Os):World:=
 { World.holding prog os ⟨#[],#[],[]⟩ with heap:=(((World.holding prog os ⟨#[],#[],[]⟩).heap.modify 0 fun o=>lay o #[.int .i32 0,.int .i32 128,.int .i32 2048,.int .i32 65536,.int .i32 2097152]).modify 2 fun o=>lay o firstCells).modify 3 fun o=>lay o aDe }
theorem aHP (h:Os):laidMet prog Rows.fnLinesRow.laid ((vZ h).forCall (fun _ _=>0) ⟨#[],#[.slice none 0 0],[]⟩).memory:=
 laidMet_of_run' 8 (by kernel_rfl) (by kernel_rfl)
theorem aLZ (y:Os) {H:Type} (enc:TypeId × Value->H):∃ h,DataW.whole enc prog ((vZ y).forCall (fun _ _=>0) ⟨#[],#[.slice none 0 0],[]⟩).memory Tryz.f3.params.toList Rows.fnLinesSpec.vars false #[Value.slice none 0 0].toList 8=some ([.nil],[.agg [.lit (.int .i32 0),.lit (.int .i32 128),.lit (.int .i32 2048),.lit (.int .i32 65536),.lit (.int .i32 2097152)]],h):=
 ⟨MemPlace.row ⟨0,0,none⟩ 5,by kernel_rfl⟩
theorem aKK (D:Os) (h:D.Started) (H:Type) (enc:TypeId × Value->H) (F:Stop.Interp) :
  ReturnsInHanded {} Tryz.checked D 3 .any ((OpenSpec.ofChange Rows.fnLinesSpec).preRow enc prog Tryz.f3 Rows.fnLinesRow.domain false Rows.fnLinesRow.laid) (((OpenSpec.ofChange Rows.fnLinesSpec).at F).post enc prog Tryz.f3 false true false false):=by
 obtain ⟨E,U⟩:=aLZ D enc
 refine returnsInHanded_of_row (C:=Tryz.checked) (s:=OpenSpec.ofChange Rows.fnLinesSpec) own h (by kernel_rfl) func3
  (witness_row_at (enc:=enc) (C:=Tryz.checked) false (vZ D) #[.slice none 0 0] rfl (by kernel_rfl) (by kernel_rfl) (by kernel_rfl)
   (OpenSpec.preRow_of_cond 8 U (by kernel_rfl) (fun k N=>by cases N) (by kernel_rfl) (aHP D))) ?_
 intro W base args M G y A S _ _ _ J O _;exact aHI H enc W base args M G y A S J O
theorem aMd:Rows.FnLinesSaid:=
 OpenClaim.holds_of_cond 3 Tryz.f3 rfl rfl rfl rfl rfl rfl rfl ⟨rfl,rfl,rfl,rfl,rfl⟩ rfl rfl rfl rfl rfl (by kernel_rfl) func3 (by kernel_rfl)
  (of_decide_eq_true (by kernel_rfl)) (by unfold Func.isWrapper;first | (rw [if_pos (by decide+kernel)];kernel_rfl) | (rw [if_neg (by decide+kernel)];exact ⟨rfl,rfl⟩))
  (fun y h H enc _ F=>by rw [OpenClaim.pre_eq_preRow];exact aKK y h H enc F)
theorem aLX (f : FuncId) (fn : Func) (A : Tryz.pinned.checked.prog.funcNamed "loop.example/s02863/laws.FnLines" = some f) (h : Tryz.pinned.checked.prog.funcs[f]? = some fn) :
  true=Tryz.pinned.checked.prog.looks []/\∀ (j:Nat) t,fn.params[j]?=some t->Tryz.pinned.checked.prog.wantsStandIn t=false:=by
 obtain rfl : f = 3 := Option.some.inj ((show prog.funcNamed "loop.example/s02863/laws.FnLines" = some 3 by kernel_rfl).symm.trans A) |>.symm
 obtain rfl:fn=Tryz.f3:=(Option.some.inj (func3.symm.trans h)).symm;refine ⟨by kernel_rfl,fun j t y=>?_⟩;rw [params3] at y;obtain rfl:t=22:=(by simpa using Array.mem_of_getElem? y);exact (show prog.wantsStandIn 22=false by kernel_rfl)
theorem card:Rows.FnLinesCardSaid:=
 Claim7.holds_tied_plain_at .later [] _ _ _ _ aMd (fun _ h=>by cases h) (by kernel_rfl) (fun _ h=>by cases h) fnLines_row_tie rfl ⟨rfl,rfl⟩ (by kernel_rfl) rfl aLX (by kernel_rfl)
end Go.Proofs.YtmfehflibkokbaaGreatDoor.fnLines
namespace Go.Proofs.YtmfehflibkokbaaGreatDoor
open Go.Proofs.Tryz
theorem fnLines_proved:Rows.FnLinesCardSaid:=fnLines.card
end Go.Proofs.YtmfehflibkokbaaGreatDoor
