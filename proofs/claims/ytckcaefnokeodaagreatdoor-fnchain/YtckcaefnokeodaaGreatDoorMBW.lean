import Derived.Test.YtckcaefnokeodaaGreatDoorCards
import Derived.Test.YtckcaefnokeodaaGreatDoorTie
import Derived.ProofKit
import Derived.OpenShut
import Derived.WalkSmall
import Derived.Deep.DeepHandedRow
import Derived.Lib.LaidTab
import Derived.Shelf.Vars
import Derived.Test.YtckcaefnokeodaaGreatDoorMBV
set_option maxHeartbeats 16000000
set_option maxRecDepth 100000
namespace Go.Proofs.YtckcaefnokeodaaGreatDoor
open Go.Proofs.Tryz List World
namespace fnChain
open Go.ChangeShapes Go.WideShapes Go.ChangeAt Go.RowKit
theorem own:ownKnob prog.godebug=none:=by kernel_rfl
theorem aKC:laidOutB prog=true:=by kernel_rfl
theorem aEb : prog.globalNamed "loop.example/s02863/impl.formEnds" = some 0 := by kernel_rfl
theorem aD4:(prog.globals[0]?).map (·.type)=some 229:=by kernel_rfl
theorem aMe:prog.cellsOf 229=5:=by kernel_rfl
theorem aMl:prog.cellsOf 21=1:=by kernel_rfl
theorem one : (Rows.fnChainRow.laid.filter fun x => x.1 == "loop.example/s02863/impl.formEnds") = [("loop.example/s02863/impl.formEnds", Lib.tabData .i32 [0, 128, 2048, 65536, 2097152])] := by kernel_rfl
theorem aNk {W} (h : laidMetH prog Rows.fnChainRow.laid W) : Lib.TabIs prog W "loop.example/s02863/impl.formEnds" .i32 [0, 128, 2048, 65536, 2097152] :=
 Lib.tabIs_of_head (rest := []) aEb aD4 underlying229 underlying21 aMl aMe (one ▸ laidMetH.filter (fun x => x.1 == "loop.example/s02863/impl.formEnds") h)
theorem aMG {W} (h : Lib.TabIs prog W "loop.example/s02863/impl.formEnds" .i32 [0, 128, 2048, 65536, 2097152]) : Tab W :=
 ⟨h.cell aEb 0 (by decide),h.cell aEb 1 (by decide),h.cell aEb 2 (by decide),h.cell aEb 3 (by decide),h.cell aEb 4 (by decide)⟩
theorem aHT {H:Type} (enc:TypeId × Value->H) (W) (h:Nat->Bool) :
  DataW.trod enc prog W 0 h true 3 229 ([0,128,2048,65536,2097152].map fun z=>Value.int .i32 z)=some (.agg [.lit (.int .i32 0),.lit (.int .i32 128),.lit (.int .i32 2048),.lit (.int .i32 65536),.lit (.int .i32 2097152)],[]):=by kernel_rfl
theorem aGM {H : Type} (enc : TypeId × Value → H) {W} (A : Nat → Bool) (h : Lib.TabIs prog W "loop.example/s02863/impl.formEnds" .i32 [0, 128, 2048, 65536, 2097152]) :
  DataW.TrodVars enc prog W A ["loop.example/s02863/impl.formEnds"] [.agg [.lit (.int .i32 0), .lit (.int .i32 128), .lit (.int .i32 2048), .lit (.int .i32 65536), .lit (.int .i32 2097152)]] (MemPlace.row ⟨0, 0, none⟩ 5 ++ []) :=
 trodVars_mk1 (fuel:=3) aEb aD4 h (by simpa using aHT enc W A)
theorem aNr (N:Option Addr) (D A:Nat) (F:List Int) (w:World)
  (w0:(N=none/\D=0/\A=0/\F=[])\/
   ∃ x,N=some x/\D<=A/\A<=maxLen/\F.length=A/\(∀ i,i<F.length->w.cell? (x.add i)=some (.int .u8 (F.getD i 0)))/\∀ n∈F,(Lit.int .u8 n).wf=true) (m:Int) (S:Tab w) (O:w.cell? ⟨1,0,none⟩=some (.int .i64 m)) :
  Calls prog 3 #[.slice N D A] w fun e Z=>e=.returned (.bool true)/\Below w.heap.size w Z:=by
 rcases w0 with ⟨rfl,rfl,rfl,rfl⟩ | ⟨x,rfl,hl,Y,J,G,M⟩
 .exact aCn none 0 [] m w ⟨none,0,rfl,fun h=>absurd rfl h⟩ (fun z J=>absurd J (by simp)) (by simp) (by simp) S O
 .unfold maxLen at Y;obtain ⟨I,H⟩:∃ I,I=F.take D:=⟨_,rfl⟩;have E:I.length=D:=(by rw [H,length_take_of_le (by omega)]);rw [<- E];exact aCn (some x) A I m w (aHH x I F D A w H E (by omega) G) (fun z J=>bounds_u8 (M z (by rw [H] at J;exact mem_of_mem_take J))) (by omega) (by omega) S O
theorem aJG (H:Type) (enc:TypeId × Value->H) (W N) (args:Array Value) (ds gs:List (DataW H)) (F) (G:∀ (j:Nat) t v,Tryz.f3.params[j]?=some t->args[j]?=some v->Value.okWide prog W .any N t v) (hW:DataW.Whole enc prog Tryz.f3.params.toList Rows.fnChainSpec.vars false W args.toList ds gs F) (hL:laidMetH prog Rows.fnChainRow.laid W) (hS:W.ShapedOpen prog) :
  Calls prog 3 args W fun e W'=>∃ v,e=.returned v/\Rows.fnChainSpec.post enc prog Tryz.f3 false true false false W args v W':=by
 have Y:=hW;obtain ⟨p,q,O,hV,rfl,b5,c6⟩:=hW;have hA:DataW.TrodAll enc prog W 0 (fun _=>true) true Tryz.f3.params.toList args.toList ds p:=O;rw [params3] at hA G;obtain ⟨v0,c8,d0,b4,p0,q0,Z,rfl,rfl,h0,r0⟩:=trodAll_cons hA;obtain ⟨rfl,rfl,rfl⟩:=trodAll_nil r0;obtain rfl:args=#[v0]:=(by cases args;simp_all);have J:=aNk hL;obtain ⟨rfl,rfl⟩:=hV.unique (aGM enc _ J);obtain ⟨a0,D,A,rfl⟩:=okWide_slice underlying22 (G 0 22 v0 rfl rfl);have k0:=h0;have a5:∀ x∈p0,x.block<W.heap.size:=by obtain ⟨m,hm⟩:=k0;exact DataW.trod_lt m _ _ _ hm
 obtain ⟨z0,w0⟩:∃ M,(a0=none/\D=0/\A=0/\M=[])\/
   ∃ x,a0=some x/\D<=A/\A<=maxLen/\M.length=A/\(∀ i,i<M.length->W.cell? (x.add i)=some (.int .u8 (M.getD i 0)))/\∀ n∈M,(Lit.int .u8 n).wf=true:=by
  obtain ⟨a9,hf⟩:=h0;rcases open_ints underlying22 underlying5 (by kernel_rfl) hf with ⟨E,_⟩ | ⟨x,l,c,M,E,_,hl,hm,hz,_,I,a1⟩
  .simp [Value.cells] at E;obtain ⟨rfl,rfl,rfl⟩:=E;exact ⟨[],.inl ⟨rfl,rfl,rfl,rfl⟩⟩
  .simp [Value.cells] at E;obtain ⟨rfl,rfl,rfl⟩:=E;exact ⟨M,.inr ⟨_,rfl,hl,hm,by simpa using hz,I,a1⟩⟩
 clear O;have hT:=aMG J;obtain ⟨m,hM⟩:=cell_of_shapedOpen_int (P:=prog) (g:=1) (t:=3) (zero:=#[.int .i64 0]) hS (of_decide_eq_true (by kernel_rfl)) (by kernel_rfl) rfl (by kernel_rfl) (by kernel_rfl) underlying3;refine (aNr a0 D A z0 W w0 m hT hM).mono fun e W' ⟨he,bel⟩=>?_;subst he;have S : Lib.TabIs prog W' "loop.example/s02863/impl.formEnds" .i32 [0, 128, 2048, 65536, 2097152] := var?_below bel aEb hT.pos J
 exact ⟨_,rfl,_,_,_,[],_,_,Y,trodAll_mk1 (shut_bool underlying4 _),(trodAll_cons_mk (Below.trod aKC (by kernel_rfl) (of_decide_eq_true (by kernel_rfl)) k0 bel a5) trodAll_mk0),aGM enc _ S,bel.frame _,fun h=>by cases h⟩
noncomputable def firstCells:Array Value:=(Go.Pinned.utf8FirstZ.map fun (z:Nat)=>Value.int .u8 z).toArray
noncomputable def aEj:Array Value:=(([128,191,160,191,128,159,144,191,128,143]++replicate 22 0:List Int).map fun z=>Value.int .u8 z).toArray
noncomputable def lay (o:Obj) (cs:Array Value):Obj:=match o with
 | .cells _ t frozen=>.cells cs t frozen
 | o=>o
noncomputable def xV (os:Os):World:=
 { holding prog os ⟨#[],#[],[]⟩ with heap:=(((holding prog os ⟨#[],#[],[]⟩).heap.modify 0 fun o=>lay o #[.int .i32 0,.int .i32 128,.int .i32 2048,.int .i32 65536,.int .i32 2097152]).modify 2 fun o=>lay o firstCells).modify 3 fun o=>lay o aEj }
theorem aIv (h):laidMet prog Rows.fnChainRow.laid ((xV h).forCall (fun _ _=>0) ⟨#[],#[.slice none 0 0],[]⟩).memory:=
 laidMet_of_run' 8 (by kernel_rfl) (by kernel_rfl)
theorem aNi (A) {H:Type} (enc:TypeId × Value->H):∃ h,DataW.whole enc prog ((xV A).forCall (fun _ _=>0) ⟨#[],#[.slice none 0 0],[]⟩).memory Tryz.f3.params.toList Rows.fnChainSpec.vars false #[Value.slice none 0 0].toList 8=some ([.nil],[.agg [.lit (.int .i32 0),.lit (.int .i32 128),.lit (.int .i32 2048),.lit (.int .i32 65536),.lit (.int .i32 2097152)]],h):=
 ⟨MemPlace.row ⟨0,0,none⟩ 5,by kernel_rfl⟩
theorem aL7 (D:Os) (h:D.Started) (H:Type) (enc:TypeId × Value->H) (F:Stop.Interp) :
  ReturnsInHanded {} Tryz.checked D 3 .any ((OpenSpec.ofChange Rows.fnChainSpec).preRow enc prog Tryz.f3 Rows.fnChainRow.domain false Rows.fnChainRow.laid) (((OpenSpec.ofChange Rows.fnChainSpec).at F).post enc prog Tryz.f3 false true false false):=by
 obtain ⟨I,O⟩:=aNi D enc
 refine returnsInHanded_of_row (C:=Tryz.checked) (s:=OpenSpec.ofChange Rows.fnChainSpec) own h (by kernel_rfl) func3
  (witness_row_at (enc:=enc) (C:=Tryz.checked) false (xV D) #[.slice none 0 0] rfl (by kernel_rfl) (by kernel_rfl) (by kernel_rfl)
   (OpenSpec.preRow_of_cond 8 O (by kernel_rfl) (fun k J=>by cases J) (by kernel_rfl) (aIv D))) ?_
 intro W G args N M A E S _ _ _ Z Y _;exact aJG H enc W G args N M A E S Z Y
theorem aNm:Rows.FnChainSaid:=
 OpenClaim.holds_of_cond 3 Tryz.f3 rfl rfl rfl rfl rfl rfl rfl ⟨rfl,rfl,rfl,rfl,rfl⟩ rfl rfl rfl rfl rfl (by kernel_rfl) func3 (by kernel_rfl)
  (of_decide_eq_true (by kernel_rfl)) (by unfold Func.isWrapper;first | (rw [if_pos (by decide+kernel)];kernel_rfl) | (rw [if_neg (by decide+kernel)];exact ⟨rfl,rfl⟩))
  (fun A h H enc _ F=>by rw [OpenClaim.pre_eq_preRow];exact aL7 A h H enc F)
theorem aNa (f : FuncId) (A : Func) (E : Tryz.pinned.checked.prog.funcNamed "loop.example/s02863/laws.FnChain" = some f) (h : Tryz.pinned.checked.prog.funcs[f]? = some A) :
  true=Tryz.pinned.checked.prog.looks []/\∀ (j:Nat) t,A.params[j]?=some t->Tryz.pinned.checked.prog.wantsStandIn t=false:=by
 obtain rfl : f = 3 := Option.some.inj ((show prog.funcNamed "loop.example/s02863/laws.FnChain" = some 3 by kernel_rfl).symm.trans E) |>.symm
 obtain rfl:A=Tryz.f3:=(Option.some.inj (func3.symm.trans h)).symm;refine ⟨by kernel_rfl,fun j t D=>?_⟩;rw [params3] at D;obtain rfl:t=22:=(by simpa using Array.mem_of_getElem? D);exact (show prog.wantsStandIn 22=false by kernel_rfl)
theorem card:Rows.FnChainCardSaid:=
 Claim7.holds_tied_plain_at .later [] _ _ _ _ aNm (fun _ h=>by cases h) (by kernel_rfl) (fun _ h=>by cases h) fnChain_row_tie rfl ⟨rfl,rfl⟩ (by kernel_rfl) rfl aNa (by kernel_rfl)
end fnChain
theorem fnChain_proved:Rows.FnChainCardSaid:=fnChain.card
end Go.Proofs.YtckcaefnokeodaaGreatDoor
