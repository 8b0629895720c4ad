import Derived.Lib.AppendStr
import Derived.Lib.SlBytesConst
import Derived.Test.YtckcaefnokeodaaGreatDoorMAG
import Derived.Test.YtckcaefnokeodaaGreatDoorMAT
set_option maxHeartbeats 16000000
set_option maxRecDepth 100000
namespace Go.Proofs.YtckcaefnokeodaaGreatDoor
open Go.Proofs.Tryz Go.RowKit List World
section
attribute [-go_sem] Builtin.append_
theorem PiR.at {B w r v E} (h:PiR B w r v E) (j:Nat) (F:j<E.length) :
  ∃ b A D,v=.slice (some ⟨b,A,none⟩) E.length D/\Zo B w r b/\PcR B w r b (A+j*3) E[j]:=by
 obtain ⟨a,D,H,N,O,M⟩:=h;obtain ⟨b,A,J,I,G⟩:=M (fun e=>by rw [e] at F;simp at F);exact ⟨b,A,D,by rw [H,J],I,G j E[j] (by simp [F])⟩
theorem PoR.sl {B w v A} (h:PoR B w v A):Sl v A.length:=h.pi.sl
theorem PoR.lt {B w v A} (h:PoR B w v A):∀ k,v.ownBlock=some k->B<=k/\k<w.heap.size:=by
 obtain ⟨E,D,_⟩:=h;exact fun k e=>ownsRow.lt D k e
theorem PoR.push {B w v H} (k n:Int) (E t) (J:PoR B w v H) (Z:B<=w.heap.size) (Y:TxR B w v.ownBlock E t) (hn:H.length<=100000000000) :
  ∃ F G,(Builtin.append_ #[31,31] 31 #[v,.slice (some ⟨w.heap.size,0,none⟩) 1 1]).run prog (w.alloc (Obj.cells #[.int .i64 k,E,.int .i64 n] 88))=.ok F G/\PoR B G F (H++[⟨k,t,n⟩])/\w.grownBy G v.ownBlock/\(∃ a A,F=.slice a (H.length+1) A)/\∀ x,F.ownBlock=some x->v.ownBlock=some x\/w.heap.size<=x:=by
 have g:=grownBy_alloc w (Obj.cells #[.int .i64 k,E,.int .i64 n] 88) none;have N:=grownBy_alloc w (Obj.cells #[.int .i64 k,E,.int .i64 n] 88) v.ownBlock
 obtain ⟨F,G,S,M,h3,O⟩:=uV B (w.alloc (Obj.cells #[.int .i64 k,E,.int .i64 n] 88)) v (.slice (some ⟨w.heap.size,0,none⟩) 1 1) H [⟨k,t,n⟩] (J.K g)
  ⟨_,1,rfl,Nat.le_refl _,by unfold maxLen;omega,fun _=>⟨w.heap.size,0,rfl,⟨Z,by simp,fun e=>by have:=J.lt _ e.symm;omega⟩,fun j p D=>by
   match j,D with
   | 0,D=>simp at D;subst D;exact ⟨E,by simp [go_sem],by simp [go_sem],by simp [go_sem],Y.K g⟩
   | j+1,D=>simp at D⟩⟩ (by simp;omega) (by simp;omega)
 refine ⟨F,G,S,M,aA N h3,?_⟩;obtain ⟨a,A,e,_⟩:=M.sl;refine ⟨⟨a,A,by simpa using e⟩,fun x I=>?_⟩;rcases O with h | h
 .exact .inl (by rw [<- h];exact I)
 .rw [h] at I;cases I;right;simp
theorem qL (v G B w) (hv:PiR B w none v G) (hn:mes G<=4194304) :
  Calls prog 86 #[v] w fun e w'=>∃ v',e=.returned v'/\PoR w.heap.size w' v' G/\w.grownBy w' none:=by
 have HV:=aB hv;obtain ⟨a,Y,d7,_⟩:=id hv;subst d7;have hl:=qP G;clear hv
 go_enter func86,ntmps86
 go_wp2
 go_loopw [3,4] (fun o i W=>∃ (k:Nat),k<=G.length/\i=.int .i64 k/\PoR w.heap.size W o (G.take k)/\w.grownBy W none)
  (fun _ i _=>G.length - (intOf i).toNat)
 case atStart=>exact ⟨0,Nat.zero_le _,rfl,PoR.nil _ _,grownBy.refl _ _⟩
 case round=>
  obtain ⟨k,hk,rfl,ho,hg⟩:=hrel
  by_cases H:k<G.length
  .obtain ⟨b,D,b2,d9,hz,tv,c0,c1,c2,hT⟩:=(HV.out.K hg).at k H;cases d9;have d8:b<w.heap.size:=(by have:=((HV.out).at k H);obtain ⟨b',f9,b2,e,c8,_⟩:=this;cases e;exact c8.2.1);have hm:=aGw G G[k] (getElem_mem H);have gd:wr.grownBy wr.drew none:=⟨rfl,rfl,rfl,Nat.le_refl _,fun _ _ _=>rfl⟩;have HC:=aB (aBl tv G[k].t wr.drew (hT.K gd).rd (by omega));have HP:=aB (show G.take (k+1)=G.take k++[G[k]] by rw [take_add_one];simp [H]);obtain ⟨ta,N,d4,_,_⟩:=hT.sl;subst d4;obtain ⟨oa,oc,a3,_,_⟩:=ho.sl;have HO:=aB ho;have b6:(G.take k).length=k:=(by simp;omega);rw [b6] at a3;subst a3;clear hT ho;generalize G[k]=p at *;obtain ⟨I,M⟩:∃ I:World->Prop,I=(fun W:World=>W.cell? ⟨b,D+k*3,none⟩=some (.int .i64 p.k)/\W.cell? ⟨b,D+k*3+1,none⟩=some (.slice ta p.t.length N)/\W.cell? ⟨b,D+k*3+2,none⟩=some (.int .i64 p.n)):=⟨_,rfl⟩;have A:I wr.drew:=(by rw [M];exact ⟨c0,c1,c2⟩);go_wp2;refine aW I (fun _=>false) (by kernel_rfl) ?_
   show fK _ _ _ _ _ _ 21 (Array.replicate 21 false) _ _
   refine bG (i:=0) (.slice oa k oc) rfl A (bI rfl (fun W E=>by go_simp)) ?_;refine bG (i:=1) (.slice (some ⟨b,D,none⟩) G.length Y) rfl A (bI rfl (fun W E=>by go_simp)) ?_;refine bG (i:=2) (.int .i64 k) rfl A (bI rfl (fun W E=>by go_simp)) ?_;refine bG (i:=3) (.pointer (some ⟨b,D+k*3,none⟩)) rfl A (bI rfl (fun W E=>by go_simp)) ?_;refine bG (i:=4) (.pointer (some ⟨b,D+k*3,none⟩)) rfl A (bI rfl (fun W E=>by go_simp)) ?_;refine bG (i:=5) (.int .i64 p.k) rfl A (bI rfl (fun W E=>by rw [M] at E;obtain ⟨h1,h2,h3⟩:=E;go_simp)) ?_;refine bG (i:=6) (.slice (some ⟨b,D,none⟩) G.length Y) rfl A (bI rfl (fun W E=>by go_simp)) ?_;refine bG (i:=7) (.int .i64 k) rfl A (bI rfl (fun W E=>by go_simp)) ?_;refine bG (i:=8) (.pointer (some ⟨b,D+k*3,none⟩)) rfl A (bI rfl (fun W E=>by go_simp)) ?_;refine bG (i:=9) (.pointer (some ⟨b,D+k*3+1,none⟩)) rfl A (bI rfl (fun W E=>by go_simp)) ?_;refine bG (i:=10) (.slice ta p.t.length N) rfl A (bI rfl (fun W E=>by rw [M] at E;obtain ⟨h1,h2,h3⟩:=E;go_simp)) ?_;refine bG (i:=12) (.slice (some ⟨b,D,none⟩) G.length Y) rfl A (bI rfl (fun W E=>by go_simp)) ?_;refine bG (i:=13) (.int .i64 k) rfl A (bI rfl (fun W E=>by go_simp)) ?_;refine bG (i:=14) (.pointer (some ⟨b,D+k*3,none⟩)) rfl A (bI rfl (fun W E=>by go_simp)) ?_;refine bG (i:=15) (.pointer (some ⟨b,D+k*3+2,none⟩)) rfl A (bI rfl (fun W E=>by go_simp)) ?_;refine bG (i:=16) (.int .i64 p.n) rfl A (bI rfl (fun W E=>by rw [M] at E;obtain ⟨h1,h2,h3⟩:=E;go_simp)) ?_;generalize hG:Act.put _ _ _=A0;simp [Act.put] at hG;subst hG;refine aG (i:=11) (by kernel_rfl) (eW rfl rfl (by go_simp) HC.out ?_);rintro e Z ⟨v1,rfl,o1,J⟩;have F:I Z:=(by rw [M];exact ⟨(aA gd J).cell c0 (by simp),(aA gd J).cell c1 (by simp),(aA gd J).cell c2 (by simp)⟩);refine ⟨_,rfl,.inr F,?_⟩;replace J:=aA gd J;have hs:=J.size;have hw:=hg.size;have O:∀ b,v1.ownBlock=some b->wr.heap.size<=b:=fun b e=>(ownsRow.lt o1 b e).1;have b4:TxR w.heap.size Z (Value.slice oa k oc).ownBlock v1 p.t:=aJP (gP hw o1) (fun b e h=>by have:=(HO.out.lt b h.symm).2;have:=O b e;omega);obtain ⟨v2,w2,f1,b5,g2,⟨a2,b7,b3⟩,_⟩:=(HO.out.K J).push p.k p.n v1 p.t (by omega) b4 (by omega);rw [b6] at b3;obtain ⟨a1,a7,c9,_,_⟩:=o1.sl;have d1:Hid (PoR w.heap.size w2 v2 (G.take (k+1))):=(by unfold Hid;rw [HP.out];exact b5);have HG:Hid (w.grownBy w2 none):=bC (aA hg J) g2 (fun j e=>(HO.out.lt j e).1);have a8:∀ x,(Value.slice oa k oc).ownBlock=some x->some b≠some x:=fun x e h=>by cases h;have:=(HO.out.lt b e).1;have:=d8;omega
   have d0:I (Z.alloc (Obj.cells #[.int .i64 p.k,v1,.int .i64 p.n] 88)):=by
    have g:=grownBy_alloc Z (Obj.cells #[.int .i64 p.k,v1,.int .i64 p.n] 88) none;rw [M] at F ⊢;exact ⟨g.cell F.1 (by simp),g.cell F.2.1 (by simp),g.cell F.2.2 (by simp)⟩
   have a4:I w2:=by
    have S:some b≠(Value.slice oa k oc).ownBlock:=fun e=>a8 b e.symm rfl;rw [M] at F ⊢;exact ⟨g2.cell F.1 S,g2.cell F.2.1 S,g2.cell F.2.2 S⟩
   subst c9 b3;clear HC b4 b5 g2 o1 O HP c0 c1 c2 a8;refine aG (i:=17) (by kernel_rfl) (bM (w':=Z) (v:=.agg #[.int .i64 p.k,.slice a1 p.t.length a7,.int .i64 p.n]) rfl rfl (by go_simp) ⟨.inr F,?_⟩);refine aG (i:=18) (by kernel_rfl) (bM (w':=Z.alloc (Obj.cells #[.int .i64 p.k,.slice a1 p.t.length a7,.int .i64 p.n] 88)) (v:=.slice (some ⟨Z.heap.size,0,none⟩) 1 1) rfl rfl (by go_simp) ⟨.inr d0,?_⟩);refine aG (i:=19) (by kernel_rfl) (bM (w':=w2) (v:=.slice a2 (k+1) b7) rfl rfl (by go_simp) ⟨.inr a4,?_⟩);refine aG (i:=20) (by kernel_rfl) (bM (w':=w2) (v:=.slice a2 (k+1) b7) rfl rfl (by go_simp) ⟨.inr a4,?_⟩);refine bK (by kernel_rfl) ?_ _;subst M;go_wp2
   go_roundw
   case rel=>exact ⟨k+1,by omega,by go_num,d1.out,HG.out⟩
   case measure=>simp [intOf];omega
  .have d3:k=G.length:=(by omega);subst d3;rw [take_length] at ho;go_wp2;go_ret;exact ⟨_,rfl,ho,hg⟩
theorem vJ (H n:Int) (v A B w) (G:PiR B w none v A) (hn:mes A<=4194304) :
  Calls prog 84 #[.int .i64 H,v,.int .i64 n] w fun e O=>∃ M,e=.returned M/\PoR w.heap.size O M (A++[⟨H,[],n⟩])/\w.grownBy O none:=by
 have S:=aB (qL v A B w G hn);have hl:=qP A;obtain ⟨a,a3,I,_⟩:=id G;subst I;clear G
 go_enter func84,ntmps84
 go_wp2_with fail
 refine S.out.mono ?_;rintro e w1 ⟨v1,rfl,D,J⟩;have hs:=J.size;obtain ⟨v2,w2,N,h,Y,⟨a2,c2,F⟩,_⟩:=D.push H n (.slice none 0 0) [] hs (TxR.nil _ _ _) (by omega);obtain ⟨a1,c1,E,_,_⟩:=D.sl;have Z:Hid (w.grownBy w2 none):=bC J Y (fun j e=>(D.lt j e).1);have HO:=aB h;subst E F;clear S D h Y;go_wp2;go_ret;exact ⟨_,rfl,HO.out,Z.out⟩
theorem kE (v A B w) (hv:DiR B w none v A) (hB:B<=w.heap.size) (hn:bW A<=4194304) :
  Calls prog 44 #[v] w fun e w'=>∃ v',e=.returned v'/\PoR B w' v' (eR A)/\w.grownBy w' none:=by
 have HV:=aB hv;obtain ⟨a,i2,c7,h9,i1,hh⟩:=id hv;subst c7;clear hv;have b9:=dH A;rcases A with _ | ⟨D,A⟩
 .have HL:=aB (fH 0 w);simp only [length_nil]
  go_enter func44,ntmps44
  go_wp2_with fail
  refine HL.out.mono ?_;rintro e w1 ⟨v1,rfl,E,g1⟩;have HO:=aB (E.base hB);obtain ⟨a1,c1,J,_,_⟩:=E.sl;subst J;clear HL E;go_wp2;go_ret;exact ⟨_,rfl,HO.out,g1⟩
 .obtain ⟨b,h7,rfl,hz,hc⟩:=hh (by simp);obtain ⟨u0,b2,N⟩:=hc 0 D rfl;have a0:=aB hc;have b3:mes D<=4194304:=(by have:=aE1 (D::A) D (by simp);omega);have HC:=aB (fun W (g:w.grownBy W none)=>qL u0 D B W (N.K g) b3);obtain ⟨ua,uc,hu,_,_⟩:=N.sl;subst hu;have h6:=hz.2.1;clear hh hc hz N;have b6:(D::A).length=A.length+1:=rfl;rw [b6] at *;rw [Nat.add_zero] at b2
  go_enter func44,ntmps44
  go_wp2_with fail
  refine (HC.out _ (grownBy.refl _ _)).mono ?_;rintro e w1 ⟨v1,rfl,E,g1⟩;obtain ⟨a1,c1,J,_,_⟩:=E.sl;have HO:=aB (E.base hB);have Z:=aB (fun x e=>(E.lt x e).1);subst J;clear HC E;have HM:=aB hn;have g0:A.length<=4194304:=(by have h:=dH A;simp only [bW] at hn;omega);clear hn b9;go_wp2
  go_loopw [3,4] (fun o i W=>∃ (k:Nat),k<=A.length/\i=.int .i64 ((k:Int)+1)/\PoR B W o (D++jM (A.take k))/\w.grownBy W none/\(∀ x,o.ownBlock=some x->w.heap.size<=x))
   (fun _ i _=>A.length+1 - (intOf i).toNat)
  case atStart=>exact ⟨0,Nat.zero_le _,rfl,by simpa [jM] using HO.out,g1,Z.out⟩
  case round=>
   obtain ⟨k,hk,rfl,H,O,hx⟩:=hrel
   by_cases Y:k<A.length
   .obtain ⟨u,hu,hd⟩:=a0.out (k+1) A[k] (by simp [Y]);have h8:=O.cell hu (by simp);have d1:mes A[k]<=4194304:=(by have:=aE1 (D::A) A[k] (by simp);have:=HM.out;omega);have g9:=qP A[k]
    have c8:(D++jM (A.take k)).length<=4194304:=by
     have h1:=qP (D++jM (A.take k));rw [fM,aAG] at h1;have h2:=HM.out;have h3:=cS (A.take k) (A.drop k);rw [take_append_drop] at h3;simp only [bW] at h2;omega
    obtain ⟨oa,oc,G,_,_⟩:=H.sl;subst G;have M:=(hd.turn (Zo.on (Value.slice oa (D++jM (A.take k)).length oc).ownBlock (Nat.le_refl _) (fun x e=>.inr (hx x e)))).K O;have c4:=O.size;obtain ⟨v2,w2,d6,F,g2,h2⟩:=uV B wr _ u _ _ H M (by omega) (by omega);obtain ⟨a2,c2,c5,_,_⟩:=F.sl;have S:=bC O g2 hx
    have I:∀ x,v2.ownBlock=some x->w.heap.size<=x:=fun x e=>by
     rcases h2 with h | h
     .exact hx x (by rw [<- h];exact e)
     .rw [h] at e;cases e;exact c4
    have d9:=S.size;obtain ⟨v3,w3,d8,a4,g3,⟨a3,c3,d0⟩,h3⟩:=F.push 6 0 (.slice none 0 0) [] (by omega) (TxR.nil _ _ _) (by simp only [length_append] at c8 ⊢;omega)
    have b8:Hid (PoR B w3 v3 (D++jM (A.take (k+1)))):=by
     have e:A.take (k+1)=A.take k++[A[k]]:=(by rw [take_add_one];simp [Y]);unfold Hid;rw [e,aCp];simpa [wV,append_assoc] using a4
    have c0:=aB (bC S g3 I)
    have b4:Hid (∀ x,v3.ownBlock=some x->w.heap.size<=x):=fun x e=>by
     rcases h3 x e with h | h
     .exact I x h
     .omega
    obtain ⟨h0,g5,b7,_,_⟩:=M.sl;subst c5 d0 b7;clear H F a4 M hd g2 g3 hx I h2 h3 hu a0 HO Z d1;generalize (D++jM (List.take k A)++A[k]).length=L2 at *;generalize (D++jM (List.take k A)).length=L1 at *;go_wp2
    go_roundw
    case rel=>exact ⟨k+1,by omega,by go_num,b8.out,c0.out,b4.out⟩
    case measure=>simp [intOf];omega
   .have d2:k=A.length:=(by omega);subst d2;rw [take_length] at H;obtain ⟨oa,oc,G,_,_⟩:=H.sl;subst G;have b5:=aB H;clear H;go_wp2;go_ret;exact ⟨_,rfl,b5.out,O⟩
end
def Bw (B:Nat) (w:World) (v:Value) (zs:List Int):Prop:=
 OwB B w v zs\/∃ g,v=.slice (some ⟨g,0,none⟩) zs.length zs.length/\B<=g/\g<w.heap.size/\zs.length<=1000/\∀ j,j<zs.length->w.cell? ⟨g,j,none⟩=some (.int .u8 (zs[j]?.getD 0))
theorem Bw.lt {B w v D} (h:Bw B w v D):∀ k,v.ownBlock=some k->B<=k/\k<w.heap.size:=by
 rcases h with h | ⟨g,rfl,E,A,_⟩
 .exact fun k e=>ownsRow.lt h k e
 .intro k e;cases e;exact ⟨E,A⟩
theorem Bw.K {B w w' v A} (h:Bw B w v A) (g:w.grownBy w' none):Bw B w' v A:=by
 rcases h with h | ⟨x,rfl,F,G,H,E⟩
 .exact .inl (h.later g)
 .exact .inr ⟨x,rfl,F,Nat.lt_of_lt_of_le G g.size,H,fun j D=>g.cell (E j D) (by simp)⟩
theorem Bw.rd {B w v A} (h:Bw B w v A):RdB w.heap.size w v A:=by
 rcases h with h | ⟨g,rfl,G,F,H,E⟩
 .exact h.rd
 .exact ⟨_,_,rfl,fun _=>⟨g,0,rfl,F,fun j D=>by rw [Nat.zero_add];exact E j D⟩⟩
theorem Bw.sl {B w v A} (h:Bw B w v A):Sl v A.length:=by
 rcases h with h | ⟨g,rfl,E,F,G,D⟩
 .exact h.sl
 .exact ⟨_,_,rfl,Nat.le_refl _,by unfold maxLen;omega⟩
theorem Bw.base {B} {B':Nat} {w v A} (h:Bw B w v A) (F:B'<=B):Bw B' w v A:=by
 rcases h with h | ⟨g,rfl,H,E,G,D⟩
 .exact .inl (gP F h)
 .exact .inr ⟨g,rfl,by omega,E,G,D⟩
theorem Bw.nil (B w):Bw B w (.slice none 0 0) []:=.inl ⟨by simp,.inl ⟨rfl,rfl⟩⟩
theorem uY (B w v tv h t) (D:Bw B w v h) (M:RdB w.heap.size w tv t) (hB:B<=w.heap.size) (hn:h.length+t.length<=100000000000) :
  ∃ E I,(Builtin.append_ #[22,22] 22 #[v,tv]).run prog w=.ok E I/\Bw B I E (h++t)/\w.grownBy I v.ownBlock/\(E.ownBlock=v.ownBlock\/E.ownBlock=some w.heap.size):=by
 rcases D with D | ⟨g,rfl,h1,h2,h3,h4⟩
 .obtain ⟨E,I,Z,ho,hg,hb⟩:=xK B w.heap.size w v tv h t D M hB hn;exact ⟨E,I,Z,.inl ho,hg,hb⟩
 .obtain ⟨i0,S,Y,N,a0⟩:=info_parts mA;obtain ⟨a,a1,a5,Z⟩:=M;subst a5;have ht:=underlying22
  by_cases h0:t=[]
  .subst h0;refine ⟨_,w,?_,by rw [append_nil];exact .inr ⟨g,rfl,h1,h2,h3,h4⟩,grownBy.refl _ _,.inl rfl⟩;cases a with
   | none=>simp [Builtin.append_,run_underlying ht,sizeOf,typeInfo,S,Builtin.lenOf,Builtin.firstCells,storeCells]
   | some ad=>simp [Builtin.append_,run_underlying ht,sizeOf,typeInfo,S,Builtin.lenOf,Builtin.firstCells,loadCells,loadCellsFrom,storeCells]
  .obtain ⟨b,J,rfl,hb,hc⟩:=Z h0;have b3:0<t.length:=length_pos_iff.2 h0
   have F:∀ j u,(h.map (Value.int .u8))[j]?=some u->w.cell? ((⟨g,0,none⟩:Addr).add j)=some u:=by
    intro j u O;have A:j<h.length:=(by have:=(List.getElem?_eq_some_iff.1 O).1;simpa using this);rw [Addr.add_lit,Nat.zero_add,h4 j A];simpa [A] using O
   have H:∀ j u,(t.map (Value.int .u8))[j]?=some u->w.cell? ((⟨b,J,none⟩:Addr).add j)=some u:=by
    intro j u O;have A:j<t.length:=(by have:=(List.getElem?_eq_some_iff.1 O).1;simpa using this);rw [Addr.add_lit,hc j A];simpa [A] using O
   have G:=run_append_grow (P:=prog) w 22 22 5 i0 (.int .u8 0) ht S Y ⟨g,0,none⟩ h.length h.length (h.map (Value.int .u8)) (by rw [N];simp) F ⟨b,J,none⟩ t.length a1 (t.map (Value.int .u8)) (by rw [N];simp) H (by omega) (by omega) (growslice_fits (by omega) (by rw [a0];omega));refine ⟨_,_,G,.inl ?_,?_,.inr rfl⟩
   .have a4:=grownCap_ge w (h.length+t.length) h.length 5;have a2:=grownCap_le_maxLen w (h.length+t.length) h.length 5 (by unfold maxLen;omega);refine ⟨by simp,.inr ⟨w.heap.size,_,_,by rw [length_append],hB,heap_alloc_new w.drew _,by simpa using a4,a2,?_,?_⟩⟩
    .simp only [Array.size_append,size_toArray,size_zeroCells,length_map,Value.cells];simp;omega
    .simp only [Array.toList_append,append_assoc];rw [<- append_assoc,<- map_append];exact take_left' (by simp)
   .have gd:w.grownBy w.drew (Value.slice (some ⟨g,0,none⟩) h.length h.length).ownBlock:=⟨rfl,rfl,rfl,Nat.le_refl _,fun _ _ _=>rfl⟩;exact aA gd gWA
theorem uP (B w v A D) (E:Bw B w v A) (Z:Bys D) (b2:0<D.length) (hB:B<=w.heap.size) (hn:A.length+D.length<=100000000000) :
  ∃ S J,(Builtin.append_ #[22,9] 22 #[v,.string (strOfNums D)]).run prog w=.ok S J/\Bw B J S (A++D)/\w.grownBy J v.ownBlock:=by
 have N:Lib.strCells (strOfNums D)=D.map (Value.int .u8):=by
  unfold Lib.strCells;rw [strOfNums_data,map_map];refine map_congr_left fun z hz=>?_;have:=Z z hz;simp only [Function.comp,Value.int.injEq,true_and,UInt8.toNat_ofNat'];omega
 have h:=strOfNums_size D;obtain ⟨i0,hi,H,O,I⟩:=info_parts mA;have ht:=underlying22;have hu:=underlying9;rcases E with E | ⟨g,rfl,h1,h2,h3,h4⟩
 .obtain ⟨S,J,hr,ho,hg,_⟩:=Lib.run_append_own_string (P:=prog) w B 22 9 22 5 i0 ht hu hi H O I v A.length _ E (strOfNums D) (by rw [h];unfold maxLen;omega) (by rw [h];omega) hB;exact ⟨S,J,hr,.inl (by unfold OwB Ow;rw [N,h] at ho;simpa using ho),hg⟩
 .have G:∀ j u,(A.map (Value.int .u8))[j]?=some u->w.cell? ((⟨g,0,none⟩:Addr).add j)=some u:=by
   intro j u hj;have M:j<A.length:=(by have:=(List.getElem?_eq_some_iff.1 hj).1;simpa using this);rw [Addr.add_lit,Nat.zero_add,h4 j M];simpa [M] using hj
  have F:=Lib.run_append_grow_string (P:=prog) w 22 9 22 5 i0 (.int .u8 0) ht hu hi H ⟨g,0,none⟩ A.length A.length (A.map (Value.int .u8)) (by rw [O];simp) G (strOfNums D) (by rw [h];omega) (by rw [h];omega) (growslice_fits (by rw [h];omega) (by rw [I,h];omega));rw [N,h] at F;refine ⟨_,_,F,.inl ?_,?_⟩
  .have a0:=grownCap_ge w (A.length+D.length) A.length 5;have Y:=grownCap_le_maxLen w (A.length+D.length) A.length 5 (by unfold maxLen;omega);refine ⟨by simp,.inr ⟨w.heap.size,_,_,by rw [length_append],hB,heap_alloc_new w.drew _,by simpa using a0,Y,?_,?_⟩⟩
   .simp only [Array.size_append,size_toArray,size_zeroCells,length_map,Value.cells];simp;omega
   .simp only [Array.toList_append,append_assoc];rw [<- append_assoc,<- map_append];exact take_left' (by simp)
  .have gd:w.grownBy w.drew (Value.slice (some ⟨g,0,none⟩) A.length A.length).ownBlock:=⟨rfl,rfl,rfl,Nat.le_refl _,fun _ _ _=>rfl⟩;exact aA gd gWA
theorem vG (w:World) (x y:Int):Bw w.heap.size (w.alloc (Obj.cells #[.int .u8 x,.int .u8 y] 5 (2,3))) (.slice (some ⟨w.heap.size,0,none⟩) 2 2) [x,y]:=by
 refine .inr ⟨w.heap.size,rfl,Nat.le_refl _,by simp,by simp,fun j h=>?_⟩;have:=cell?_alloc_mark w #[.int .u8 x,.int .u8 y] 5 (2,3) j;rw [this]
 match j,h with
 | 0,_=>rfl
 | 1,_=>rfl
section
attribute [-go_sem] Builtin.append_
theorem aEs (x:List Int):∀ (L:List (List Int)),tK (L++[x])=(L.flatMap fun l=>[aI l,aM 5])++[aI x]
 | []=>rfl
 | [l]=>rfl
 | l::m::L=>by
   have:=aEs x (m::L);simp only [cons_append] at this ⊢;simp only [tK,this];simp
theorem aAX (t O) (w:World) (hv:RdB w.heap.size w O t) (hs:Sl O t.length) (hn:t.length<=1048576) :
  Calls prog 79 #[.agg #[.bool false,O]] w fun e w'=>∃ v',e=.returned v'/\PoR w.heap.size w' v' (aI (47::47::t))/\w.grownBy w' none:=by
 obtain ⟨a,D,S,b2,a8⟩:=hs;subst S;obtain ⟨W,H⟩:∃ W,W=w.alloc (Obj.cells #[.bool false,.slice a t.length D] 96):=⟨_,rfl⟩;have I:w.grownBy W none:=(by rw [H];exact gWA);have sW:W.heap.size=w.heap.size+1:=(by rw [H];simp);have kc:=Lib.run_convert_bytes_const (P:=prog) W 22 5 #[.int .u8 47,.int .u8 47] 2 2 underlying22 underlying5;obtain ⟨F,E⟩:∃ F,F=W.alloc (Obj.cells #[.int .u8 47,.int .u8 47] 5 (2,3)):=⟨_,rfl⟩;have h:W.grownBy F none:=(by rw [E];exact gWA);have G:Bw W.heap.size F (.slice (some ⟨W.heap.size,0,none⟩) 2 2) [47,47]:=(by rw [E];exact vG W 47 47);obtain ⟨v3,w3,A,N,g3,_⟩:=uY W.heap.size F _ (.slice a t.length D) [47,47] t G (((hv.K I).K h).wideC (Nat.le_trans I.size h.size)) h.size (by simp;omega);have HC:=aB (lP v3 _ w3 N.rd (by simp;omega));have Z:Hid (w.grownBy w3 none):=aA I (bC h g3 (fun j e=>by cases e;exact Nat.le_refl _));obtain ⟨a3,c3,M,_,_⟩:=N.sl;rw [sW] at kc A;subst M;have c1:W.cell? ⟨w.heap.size,0,none⟩=some (.bool false):=(by rw [H];simp [go_sem]);have c2:F.cell? ⟨w.heap.size,1,none⟩=some (.slice a t.length D):=h.cell (by rw [H];simp [go_sem]) (by simp);subst E H;clear G N I h hv
 go_enter func79,ntmps79
 go_wp2_with fail
 refine HC.out.mono ?_;rintro e w4 ⟨v4,rfl,J,g4⟩;have HO:=aB (J.base Z.out.size);obtain ⟨a4,c4,Y,_,_⟩:=J.sl;subst Y;clear J HC A kc;go_wp2;go_ret;exact ⟨_,rfl,HO.out,aA Z.out g4⟩
def txr (L:List (List Int)):List (List Pc):=L.flatMap fun l=>[aI l,aM 5]
theorem aIU (L:List (List Int)) (x:List Int):txr (L++[x])=txr L++[aI x]++[aM 5]:=by simp [txr]
theorem aJv (L):bW (txr L)<=4*pH L:=by
 induction L with
 | nil=>simp [txr,bW]
 | cons l L ih=>rw [show txr (l::L)=[aI l,aM 5]++txr L by simp [txr],cS];simp only [bW,aI,aM,mes,pH,length_nil];omega
theorem aIo (a b:List (List Int)):pH (a++b)=pH a+pH b:=by
 induction a with
 | nil=>simp [pH]
 | cons l a ih=>simp only [cons_append,pH,ih];omega
theorem DoR.lt {B w v A} (h:DoR B w v A):∀ k,v.ownBlock=some k->B<=k/\k<w.heap.size:=by
 obtain ⟨E,D,_⟩:=h;exact fun k e=>ownsRow.lt D k e
theorem DoR.sl {B w v A} (h:DoR B w v A):Sl v A.length:=by
 obtain ⟨a,D,e,F,E,_⟩:=h.di;exact ⟨a,D,e,F,E⟩
theorem DoR.push {B w D v u A J} (O:DoR B w v A) (g:w.grownBy D none) (Y:PoR w.heap.size D u J) (Z:B<=w.heap.size) (hn:A.length<=1000000000) :
  ∃ F G,(Builtin.append_ #[89,89] 89 #[v,.slice (some ⟨D.heap.size,0,none⟩) 1 1]).run prog (D.alloc (Obj.cells #[u] 31))=.ok F G/\DoR B G F (A++[J])/\w.grownBy G v.ownBlock/\D.grownBy G v.ownBlock/\(∃ a E,F=.slice a (A.length+1) E)/\∀ x,F.ownBlock=some x->v.ownBlock=some x\/w.heap.size<=x:=by
 have S:=grownBy_alloc D (Obj.cells #[u] 31) none;have H:=grownBy_alloc D (Obj.cells #[u] 31) v.ownBlock;have hs:=g.size
 obtain ⟨F,G,h1,N,M,h4⟩:=aFS B (D.alloc (Obj.cells #[u] 31)) v u D.heap.size A J ((O.K g).K S) (by simp [go_sem])
  (((Y.pi.turn (Zo.on v.ownBlock Z (fun k e=>.inl (O.lt k e).2)))).K S) (by simp;omega) (by omega)
 have g':w.grownBy D v.ownBlock:=⟨g.os,g.tape,g.output,g.size,fun k hk _=>g.block k hk (by simp)⟩;refine ⟨F,G,h1,N,aA (aA g' H) M,aA H M,?_,fun x I=>?_⟩
 .obtain ⟨a,E,e,_⟩:=N.sl;exact ⟨a,E,by simpa using e⟩
 .rcases h4 with h | h
  .exact .inl (by rw [<- h];exact I)
  .rw [h] at I;cases I;right;simp;omega
theorem aIX (B w v A) (z:Int) (D:Bw B w v A) (Y:B<=w.heap.size) (S:A.length<=10000000000) :
  ∃ F E,(Builtin.append_ #[22,22] 22 #[v,.slice (some ⟨w.heap.size,0,none⟩) 1 1]).run prog (w.alloc (Obj.cells #[.int .u8 z] 5))=.ok F E/\Bw B E F (A++[z])/\w.grownBy E v.ownBlock/\∃ a h,F=.slice a (A.length+1) h:=by
 have N:=grownBy_alloc w (Obj.cells #[.int .u8 z] 5) none;have G:=grownBy_alloc w (Obj.cells #[.int .u8 z] 5) v.ownBlock
 obtain ⟨F,E,J,H,M,O⟩:=uY B (w.alloc (Obj.cells #[.int .u8 z] 5)) v (.slice (some ⟨w.heap.size,0,none⟩) 1 1) A [z] (D.K N)
  ⟨_,1,rfl,fun _=>⟨w.heap.size,0,rfl,by simp,fun j I=>by
   have:j=0:=by simp at I;omega
   subst this;simp [go_sem]⟩⟩ (by simp;omega) (by simp;omega)
 obtain ⟨a,h,e,_⟩:=H.sl;exact ⟨F,E,J,H,aA G M,a,h,by simpa using e⟩
theorem zK (t tv) (w:World) (hv:RdB w.heap.size w tv t) (hs:Sl tv t.length) (hn:t.length<=1000000) :
  Calls prog 79 #[.agg #[.bool true,tv]] w fun e w'=>∃ v',e=.returned v'/\PoR w.heap.size w' v' (eR (tK (spl [] (47::42::t++[42,47]))))/\w.grownBy w' none:=by
 obtain ⟨a,d4,g7,m8,n0⟩:=hs;subst g7;obtain ⟨W,hW⟩:∃ W,W=w.alloc (Obj.cells #[.bool true,.slice a t.length d4] 96):=⟨_,rfl⟩;have gW:w.grownBy W none:=(by rw [hW];exact gWA);have sW:W.heap.size=w.heap.size+1:=(by rw [hW];simp);have kc:=Lib.run_convert_bytes_const (P:=prog) W 22 5 #[.int .u8 47,.int .u8 42] 2 2 underlying22 underlying5;obtain ⟨W2,N⟩:∃ W2,W2=W.alloc (Obj.cells #[.int .u8 47,.int .u8 42] 5 (2,3)):=⟨_,rfl⟩;have d1:W.grownBy W2 none:=(by rw [N];exact gWA);have b5:Bw W.heap.size W2 (.slice (some ⟨W.heap.size,0,none⟩) 2 2) [47,42]:=(by rw [N];exact vG W 47 42);have b6:W.cell? ⟨w.heap.size,1,none⟩=some (.slice a t.length d4):=(by rw [hW];simp [go_sem]);have g9:Hid (Bw W.heap.size W2 (.slice (some ⟨w.heap.size+1,0,none⟩) 2 2) [47,42]):=(by unfold Hid;rw [<- sW];exact b5);rw [sW] at kc;have GW:=aB gW;have f3:=aB d1;have HV:=aB hv;have j2:=aB b6;have f8:(convert 22 22 (.slice (some ⟨w.heap.size+1,0,none⟩) 2 2)).run prog (W.alloc (Obj.cells #[.int .u8 47,.int .u8 42] 5))=.ok (.slice (some ⟨w.heap.size+1,0,none⟩) 2 2) W2:=(by rw [N];exact kc);rw [hW] at f8;clear kc b5 b6 hv gW d1 N
 go_enter func79,ntmps79
 go_wp2
 go_loopw [3,4,5] (fun rv pv i U=>∃ (k:Nat) (W0:World) (L:List (List Int)) (h:List Int),k<=t.length/\i=.int .i64 k/\W.grownBy W0 none/\W0.grownBy U none/\DoR W.heap.size W0 rv (txr L)/\Bw W0.heap.size U pv h/\spl [47,42] (t++[42,47])=L++spl h (t.drop k++[42,47]))
  (fun _ _ i _=>t.length - (intOf i).toNat)
 case atStart=>exact ⟨0,W,[],[47,42],Nat.zero_le _,rfl,grownBy.refl _ _,f3.out,DoR.nil _ _,g9.out,by simp⟩
 case round=>
  obtain ⟨k,W0,L,h,hk,rfl,g0,gU,ho,hb,D⟩:=hrel;have M:=aA g0 gU;have j8:=M.cell j2.out (by simp);have E:=aB D;have HO:=aB ho;have HB:=aB hb;have G0:=aB g0;have GU:=aB gU
  have k9:pH L+h.length+(t.length - k)<=t.length+10:=by
   have h1:=congrArg pH D;rw [sH,aIo,sH] at h1;simp only [length_append,length_cons,length_nil,length_drop] at h1;omega
  have l9:=aJv L;have j6:=dH (txr L);obtain ⟨ra,rc,h7,_,_⟩:=ho.sl;obtain ⟨pa,pc,g8,_,_⟩:=hb.sl;subst h7 g8;clear D ho hb g0 gU
  by_cases H:k<t.length
  .have d7:t.drop k=(t[k]?.getD 0)::t.drop (k+1):=(by rw [drop_eq_getElem_cons H];simp [H]);obtain ⟨a',k2,e,hr⟩:=(HV.out.K GW.out).K M;simp only [Value.slice.injEq,true_and] at e;obtain ⟨rfl,rfl⟩:=e;obtain ⟨b,m5,rfl,m6,hc⟩:=hr (fun e=>by rw [e] at H;simp at H);have m3:=hc k H;have J:=aB d7;clear hr hc d7;generalize t[k]?.getD 0=p at *
   by_cases hp:p=10
   .subst hp;have b3:DoR W.heap.size wr (.slice ra (txr L).length rc) (txr L):=HO.out.K GU.out;have i0:=M.size;have HC:=aB (lP (.slice pa h.length pc) h wr HB.out.rd (by omega));have HW:=aB b3;clear b3
    go_wp2_with fail
    refine HC.out.mono ?_;rintro e w1 ⟨v1,rfl,o1,g1⟩;obtain ⟨v2,w2,F,I,g2,j0,⟨a2,c2,A⟩,h2⟩:=HW.out.push g1 o1 (by omega) (by omega);obtain ⟨a1,c1,i2,_,_⟩:=o1.sl;have G:W.grownBy w2 none:=bC M g2 (fun j e=>(HO.out.lt j e).1);have k3:=G.size;have O:=aB I;have HX:=aB (fH 5 w2);have Y:∀ x,v2.ownBlock=some x->W.heap.size<=x:=fun x e=>(I.lt x e).1;have i4:=aB Y;have b7:=aB G;subst i2 A;clear HC o1 I g1 g2 j0 h2 Y G
    go_wp2_with fail
    refine HX.out.mono ?_;rintro e w3 ⟨v3,rfl,o3,g3⟩;obtain ⟨v4,w4,d6,o4,g4,_,⟨a4,c4,S⟩,_⟩:=O.out.push g3 o3 (by omega) (by simp;omega);obtain ⟨a3,c3,b0,_,_⟩:=o3.sl;have h8:=aB (bC b7.out g4 i4.out);have j3:Hid (DoR W.heap.size w4 v4 (txr (L++[h]))):=by unfold Hid;rw [aIU];exact o4
    have j4:Hid (spl [47,42] (t++[42,47])=(L++[h])++spl [] (t.drop (k+1)++[42,47])):=by
     unfold Hid;rw [E.out,J.out,cons_append,spl,if_pos rfl];simp
    have h0:(txr L++[aI h]).length+1=(txr L).length+1+1:=(by simp);rw [h0] at S;subst b0 S;clear HX o3 o4 g3 g4 O E J HW;go_wp2
    go_roundw
    case rel=>exact ⟨k+1,w4,L++[h],[],by omega,by go_num,h8.out,grownBy.refl _ _,j3.out,Bw.nil _ _,j4.out⟩
    case measure=>simp [intOf];omega
   .obtain ⟨v2,w2,F,I,g2,a2,c2,A⟩:=aIX W0.heap.size wr (.slice pa h.length pc) h p HB.out GU.out.size (by omega);have f2:=aB (bC GU.out g2 (fun j e=>(HB.out.lt j e).1));have O:=aB I
    have h3:Hid (spl [47,42] (t++[42,47])=L++spl (h++[p]) (t.drop (k+1)++[42,47])):=by
     unfold Hid;rw [E.out,J.out,cons_append,spl,if_neg hp]
    subst A;clear I g2 E J;go_wp2
    go_roundw
    case rel=>exact ⟨k+1,W0,L,h++[p],by omega,by go_num,G0.out,f2.out,HO.out,O.out,h3.out⟩
    case measure=>simp [intOf];omega
  .have d8:t.drop k=[]:=drop_of_length_le (by omega)
   have D:spl [] (47::42::t++[42,47])=L++[h++[42,47]]:=by
    have h1:=E.out;rw [d8] at h1;rw [show (47::42::t++[42,47]:List Int)=47::42::(t++[42,47]) by simp,spl,if_neg (by omega),spl,if_neg (by omega)];simpa [spl] using h1
   have f4:=aB (show tK (spl [] (47::42::t++[42,47]))=txr L++[aI (h++[42,47])] by rw [D,aEs];rfl);obtain ⟨v2,w2,F,I,g2⟩:=uP W0.heap.size wr (.slice pa h.length pc) h [42,47] HB.out (by intro z hz;simp at hz;omega) (by simp) GU.out.size (by simp;omega);rw [show strOfNums [42,47] = { data:=#[42,47] } by rfl] at F;have b8:=bC GU.out g2 (fun j e=>(HB.out.lt j e).1);have HC:=aB (lP v2 _ w2 I.rd (by simp;omega));have HW:=aB (HO.out.K b8);have Z:=aB (aA G0.out b8);have i0:=Z.out.size;obtain ⟨a2,c2,A,_,_⟩:=I.sl;have c8:(h++([42,47]:List Int)).length=h.length+2:=(by simp);rw [c8] at A;clear c8;subst A;clear I g2 D d8
   go_wp2_with fail
   refine HC.out.mono ?_;rintro e w3 ⟨v3,rfl,o3,g3⟩;obtain ⟨v4,w4,d6,o4,g4,_,⟨a4,c4,S⟩,_⟩:=HW.out.push g3 o3 (by omega) (by omega);obtain ⟨a3,c3,b0,_,_⟩:=o3.sl;have a9:=bC Z.out g4 (fun j e=>(HO.out.lt j e).1);have d0:=a9.size;have i5:w.heap.size<=W.heap.size:=GW.out.size;have HR:=aB (kE v4 _ W.heap.size w4 o4.di d0 (by rw [cS];simp only [bW,aI,mes,length_append,length_cons,length_nil];omega));have f7:=aB (aA GW.out a9);subst b0 S;clear HC o3 o4 g3 g4 HW a9
   go_wp2_with fail
   refine HR.out.mono ?_;rintro e w5 ⟨v5,rfl,o5,g5⟩;obtain ⟨a5,c5,i3,_,_⟩:=o5.sl;have g6:=aB (o5.base i5);have i7:=aB (aA f7.out g5);generalize (eR (txr L++[aI (h++[42,47])])).length=L5 at *;subst i3;clear o5 g5 HR;go_wp2;go_ret;refine ⟨_,rfl,?_,i7.out⟩;have a6:=g6.out;rw [<- f4.out] at a6;exact a6
theorem tW (c:Cm) (h) (w:World) (A:RdB w.heap.size w h c.t) (F:Sl h c.t.length) (D:c.t.length<=1000000) :
  Calls prog 79 #[.agg #[.bool c.b,h]] w fun e G=>∃ E,e=.returned E/\PoR w.heap.size G E (kC c)/\w.grownBy G none:=by
 obtain ⟨b,t⟩:=c;cases b with
 | false=>exact aAX t h w A F (Nat.le_trans D (by omega))
 | true=>exact zK t h w A F D
theorem aDa (A:List Cm):∀ c∈A,4*c.t.length+30<=wC A:=by
 induction A with
 | nil=>simp
 | cons d A ih=>
   intro c D;simp only [wC];rcases mem_cons.1 D with rfl | h
   .omega
   .have:=ih c h;omega
theorem aDV (h:List Cm):30*h.length<=wC h:=by
 induction h with
 | nil=>simp
 | cons d h ih=>simp only [wC,length_cons];omega
theorem tE (A:List Cm) (k):bW (bT (A.take k))<=wC A/\bW (cW (A.take k))<=wC A:=by
 have h:wC (A.take k)<=wC A:=by
  have E:∀ (a b:List Cm),wC (a++b)=wC a+wC b:=by
   intro a b
   induction a with
   | nil=>simp [wC]
   | cons c a ih=>simp only [cons_append,wC,ih];omega
  have D:=E (A.take k) (A.drop k);rw [take_append_drop] at D;omega
 exact ⟨Nat.le_trans (jL _) h,Nat.le_trans (nF _) h⟩
theorem lR {q B w A v F} (h:Rd q B w v F) (g:Below B w A) (O:B<=w.heap.size):Rd q A.heap.size A v F:=by
 obtain ⟨a,D,e,M⟩:=h;refine ⟨a,D,e,fun J=>?_⟩;obtain ⟨b,E,I,N,G⟩:=M J;have:=g.size;exact ⟨b,E,I,by omega,fun j H=>by rw [g.cell (by simpa using N)];exact G j H⟩
theorem dY {B w N v O} (h:RdC B w v O) (g:Below B w N):RdC B N v O:=by
 obtain ⟨a,G,hv,h1,h2,hh⟩:=h;refine ⟨a,G,hv,h1,h2,fun h0=>?_⟩;obtain ⟨b,I,ha,J,S⟩:=hh h0;refine ⟨b,I,ha,J,fun j p Z=>?_⟩;obtain ⟨tv,c0,c1,⟨a2,E,e2,H⟩,hs⟩:=S j p Z;refine ⟨tv,by rw [g.cell (by simpa using J)];exact c0,by rw [g.cell (by simpa using J)];exact c1,⟨a2,E,e2,fun Y=>?_⟩,hs⟩;obtain ⟨b2,D,M,A,F⟩:=H Y;exact ⟨b2,D,M,A,fun j hj=>by rw [g.cell (by simpa using A)];exact F j hj⟩
theorem qE (rv cv D h B w) (G:DoR B w rv D) (hB:B<=w.heap.size) (hc:RdC B w cv h) (hn:wC h<=4000000) (hd:D.length<=100000000) :
  Calls prog 41 #[rv,cv] w fun e w'=>∃ v',e=.returned v'/\DoR B w' v' (D++bT h)/\Below B w w':=by
 have b4:=aB hc;have h7:=aDV h;obtain ⟨a,c6,c5,_,_,_⟩:=id hc;obtain ⟨i2,g7,F,_,_⟩:=G.sl;have b5:=aB G;subst c5 F;clear hc G
 go_enter func41,ntmps41
 go_wp2
 go_loopw [0,5] (fun r i W=>∃ (k:Nat),k<=h.length/\i=.int .i64 k/\DoR B W r (D++bT (h.take k))/\Below B w W)
  (fun _ i _=>h.length - (intOf i).toNat)
 case atStart=>exact ⟨0,Nat.zero_le _,rfl,by simpa [bT] using b5.out,Below.refl _ _⟩
 case round=>
  obtain ⟨k,hk,rfl,G,E⟩:=hrel;have h6:=E.size
  have I:RdC B wr (.slice a h.length c6) h:=by
   have hg:wr.heap.size=wr.heap.size:=rfl;exact dY b4.out E
  obtain ⟨ra,rc,F,_,_⟩:=G.sl
  by_cases J:k<h.length
  .obtain ⟨b,Z,d5,tv,d2,h8,c0,c1,O,N⟩:=I.at k J;cases d2;have hm:=aDa h h[k] (getElem_mem J);have h0:=(tE h k).1;have f5:(D++bT (h.take k)).length<=200000000:=(by have:=dH (bT (h.take k));rw [length_append];omega);have HC:Hid (∀ W:World,Below B wr W->_):=fun W (g:Below B wr W)=>tW h[k] tv W (lR O g (by omega)) N (by omega);have HL:Hid (∀ W:World,_):=fun W=>fH 4 W;obtain ⟨ta,tc,b0,_,_⟩:=N
   have HE:Hid (D++bT (h.take (k+1))=(D++bT (h.take k))++[kC h[k]]++[aM 4]):=by
    unfold Hid;rw [show h.take (k+1)=h.take k++[h[k]] by rw [take_add_one];simp [J],aCk];simp
   have M:=aB G;have a5:=aB E;generalize H:(D++bT (h.take k)).length=LL at *;subst b0 F;clear O G I E;have b8:∀ x,(Value.slice ra LL rc).ownBlock=some x->B<=x:=fun x e=>(M.out.lt x e).1;generalize h[k]=c at *
   go_wp2_with fail
   refine (HC.out _ (Below.refl _ _)).mono ?_;rintro e w1 ⟨v1,rfl,o1,g1⟩;obtain ⟨v2,w2,d8,o2,g2,c8,⟨a2,c2,a0⟩,h2⟩:=M.out.push g1 o1 (by omega) (by omega);obtain ⟨a1,h5,b6,_,_⟩:=o1.sl;have A:Below B wr w2:=(Below.refl B wr).grown g2 (by omega) b8;have f3:=A.size;have a9:w2.cell? ⟨b,Z+k*2,none⟩=some (.bool c.b):=(by rw [A.cell (by simp;omega)];exact c0);have S:w2.cell? ⟨b,Z+k*2+1,none⟩=some (.slice ta c.t.length tc):=(by rw [A.cell (by simp;omega)];exact c1);have b3:=aB A;have Y:=aB o2;rw [H] at a0;have b7:Hid (∀ x,v2.ownBlock=some x->B<=x):=fun x e=>(o2.lt x e).1;subst b6 a0;clear o1 o2 g1 g2 c8 h2 A
   go_wp2_with fail
   refine (HL.out _).mono ?_;rintro e w3 ⟨v3,rfl,o3,g3⟩;obtain ⟨v4,w4,f9,o4,g4,_,⟨a4,c4,a6⟩,_⟩:=Y.out.push g3 o3 (by omega) (by rw [length_append,H];simp;omega);obtain ⟨a3,c3,b9,_,_⟩:=o3.sl;rw [length_append,H,length_singleton] at a6;have b1:=aB (a5.out.trans (b3.out.trans ((Below.refl B w2).grown g4 (by omega) b7.out)));have d0:Hid (DoR B w4 v4 (D++bT (h.take (k+1)))):=(by unfold Hid;rw [HE.out];exact o4);subst b9 a6;clear o3 o4 g3 g4 HE Y M HC HL H c0 c1 a9 S;go_wp2
   go_roundw
   case rel=>exact ⟨k+1,by omega,by go_num,d0.out,b1.out⟩
   case measure=>simp [intOf];omega
  .have d1:k=h.length:=(by omega);subst d1;rw [take_length] at G F;have M:=aB G;subst F;clear G I;generalize (D++bT h).length=LL at *;go_wp2;go_ret;exact ⟨_,rfl,M.out,E⟩
theorem rR (rv cv D h B w) (G:DoR B w rv D) (hB:B<=w.heap.size) (hc:RdC B w cv h) (hn:wC h<=4000000) (hd:D.length<=100000000) :
  Calls prog 83 #[rv,cv] w fun e w'=>∃ v',e=.returned v'/\DoR B w' v' (D++cW h)/\Below B w w':=by
 have b4:=aB hc;have h7:=aDV h;obtain ⟨a,c6,c5,_,_,_⟩:=id hc;obtain ⟨i2,g7,F,_,_⟩:=G.sl;have b5:=aB G;subst c5 F;clear hc G
 go_enter func83,ntmps83
 go_wp2
 go_loopw [0,5] (fun r i W=>∃ (k:Nat),k<=h.length/\i=.int .i64 k/\DoR B W r (D++cW (h.take k))/\Below B w W)
  (fun _ i _=>h.length - (intOf i).toNat)
 case atStart=>exact ⟨0,Nat.zero_le _,rfl,by simpa [cW] using b5.out,Below.refl _ _⟩
 case round=>
  obtain ⟨k,hk,rfl,G,E⟩:=hrel;have h6:=E.size
  have I:RdC B wr (.slice a h.length c6) h:=by
   have hg:wr.heap.size=wr.heap.size:=rfl;exact dY b4.out E
  obtain ⟨ra,rc,F,_,_⟩:=G.sl
  by_cases J:k<h.length
  .obtain ⟨b,a0,d5,tv,d2,h8,c0,c1,O,N⟩:=I.at k J;cases d2;have hm:=aDa h h[k] (getElem_mem J);have h0:=(tE h k).2;have f5:(D++cW (h.take k)).length<=200000000:=(by have:=dH (cW (h.take k));rw [length_append];omega);have HC:Hid (∀ W:World,Below B wr W->_):=fun W (g:Below B wr W)=>tW h[k] tv W (lR O g (by omega)) N (by omega);have HL:Hid (∀ W:World,_):=fun W=>fH 4 W;obtain ⟨ta,tc,b1,_,_⟩:=N
   have HE:Hid (D++cW (h.take (k+1))=(D++cW (h.take k))++[aM 4]++[kC h[k]]):=by
    unfold Hid;rw [show h.take (k+1)=h.take k++[h[k]] by rw [take_add_one];simp [J],aCl];simp
   have M:=aB G;have a6:=aB E;generalize H:(D++cW (h.take k)).length=LL at *;subst b1 F;clear O G I E;have b8:∀ x,(Value.slice ra LL rc).ownBlock=some x->B<=x:=fun x e=>(M.out.lt x e).1;generalize h[k]=c at *
   go_wp2_with fail
   refine (HL.out _).mono ?_;rintro e w1 ⟨v1,rfl,o1,g1⟩;obtain ⟨v2,w2,d8,o2,g2,c8,⟨a2,c2,a5⟩,h2⟩:=M.out.push g1 o1 (by omega) (by omega);obtain ⟨a1,h5,b6,_,_⟩:=o1.sl;have A:Below B wr w2:=(Below.refl B wr).grown g2 (by omega) b8;have f3:=A.size;have b0:w2.cell? ⟨b,a0+k*2,none⟩=some (.bool c.b):=(by rw [A.cell (by simp;omega)];exact c0);have S:w2.cell? ⟨b,a0+k*2+1,none⟩=some (.slice ta c.t.length tc):=(by rw [A.cell (by simp;omega)];exact c1);have Y:=aB A;have Z:=aB o2;rw [H] at a5;have b7:Hid (∀ x,v2.ownBlock=some x->B<=x):=fun x e=>(o2.lt x e).1;subst b6 a5;clear o1 o2 g1 g2 c8 h2 A
   go_wp2_with fail
   refine (HC.out _ Y.out).mono ?_;rintro e w3 ⟨v3,rfl,o3,g3⟩;obtain ⟨v4,w4,f9,o4,g4,_,⟨a4,c4,a7⟩,_⟩:=Z.out.push g3 o3 (by omega) (by rw [length_append,H];simp;omega);obtain ⟨a3,c3,b9,_,_⟩:=o3.sl;rw [length_append,H,length_singleton] at a7;have b2:=aB (a6.out.trans (Y.out.trans ((Below.refl B w2).grown g4 (by omega) b7.out)));have d0:Hid (DoR B w4 v4 (D++cW (h.take (k+1)))):=(by unfold Hid;rw [HE.out];exact o4);subst b9 a7;clear o3 o4 g3 g4 HE Z M HC HL H c0 c1 b0 S;go_wp2
   go_roundw
   case rel=>exact ⟨k+1,by omega,by go_num,d0.out,b2.out⟩
   case measure=>simp [intOf];omega
  .have d1:k=h.length:=(by omega);subst d1;rw [take_length] at G F;have M:=aB G;subst F;clear G I;generalize (D++cW h).length=LL at *;go_wp2;go_ret;exact ⟨_,rfl,M.out,E⟩
end
section
attribute [-go_sem] run_index_string
theorem iX {B} {F:World} {E} {A D:List Int} (s) (H:Lib.strCells s=D.map (Value.int .u8)) (n:Nat) (G:n=(A++D).length) (h:F.ownsRow B 5 1 E n (A.map (Value.int .u8)++Lib.strCells s)):OwB B F E (A++D):=by
 subst G;unfold OwB Ow;rw [map_append,<- H];exact h
theorem dA {B:Nat} {w:World} {D v E} (G:B<=w.heap.size) (h:OwB B w v E) (A:w.grownBy D v.ownBlock):Below B w D:=
 ⟨A.os,A.tape,A.output,A.size,fun k F=>A.block k (by omega) (fun e=>by have:=(ownsRow.lt h k e.symm).1;omega)⟩
theorem jP (B:Nat) (v Y) (p:Int) (w:World) (hB:B<=w.heap.size) (h:OwB B w v Y) (hn:Y.length<=8388608) (b0:0<=p) (a9:p<65536) :
  Calls prog 175 #[v,.int .i32 p] w fun e w'=>∃ v',e=.returned v'/\OwB B w' v' (Y++dN p)/\Below B w w':=by
 obtain ⟨i0,hi,I,O,J⟩:=info_parts mA;have N:=fun q=>aNf q;unfold aBM at N
 go_enter func175,ntmps175
 go_wp2_with (at_builtin;refine Lib.wpList_append_own_string _ rfl _ _ 22 9 rfl B 5 i0 underlying22 underlying9 hi I O J _ _ _ rfl h { data:=#[92,117] } rfl (by unfold maxLen;simp [ByteArray.size];omega) (by simp [ByteArray.size];omega) hB ?_;intro v1 w1 M F _)
 have o1:OwB B w1 v1 (Y++[92,117]):=iX _ rfl _ (by simp [ByteArray.size]) M;have b1:=dA hB h F;clear M F h
 go_loopw [0,5] (fun v i wr=>∃ j:Nat,j<=4/\i=.int .i64 (12 - 4*(j:Int))/\OwB B wr v (Y++(dN p).take (2+j))/\Below B w wr)
  (fun _ i _=>(intOf i+4).toNat)
 case atStart=>exact ⟨0,by omega,rfl,o1,b1⟩
 case round=>
  obtain ⟨j,hj,rfl,h,G⟩:=hrel;clear o1 b1;have S:=Nat.le_trans hB G.size;have E:(Y++(dN p).take (2+j)).length=Y.length+(2+j):=by simp [dN];omega
  match j,hj with
  | 0,_=>
    have Z:=fun W=>N (p / 4096) W;have ha:bits .and .i32 (p / 4096) 15=p / 4096%16:=aGF _ (by omega) (by omega)
    go_wp2_with (at_builtin;refine wpList_append_own _ rfl _ _ 22 rfl B 5 i0 (.int .u8 0) 1 1 underlying22 hi I O J rfl (by decide) _ _ _ rfl (ownsRow.alloc h _) ⟨wr.heap.size,0,none⟩ 1 1 [.int .u8 (nZ (p / 4096%16))] rfl rfl (cell_one_new _ _ _) (by intro u H;simp at H;subst H;rfl) (by rw [E];unfold maxLen;omega) (by rw [E];omega) (by simp;omega) ?_;intro v' w2 A D _)
    have R:=cG (xs:=[nZ (p / 4096%16)]) _ S h A (by simp;omega) D;clear A D h;go_wp2
    go_roundw
    case rel=>exact ⟨1,by omega,by go_num,by simpa [dN] using R.1,G.trans R.2⟩
    case measure=>simp [intOf]
  | 1,_=>
    have Z:=fun W=>N (p / 256) W;have ha:bits .and .i32 (p / 256) 15=p / 256%16:=aGF _ (by omega) (by omega)
    go_wp2_with (at_builtin;refine wpList_append_own _ rfl _ _ 22 rfl B 5 i0 (.int .u8 0) 1 1 underlying22 hi I O J rfl (by decide) _ _ _ rfl (ownsRow.alloc h _) ⟨wr.heap.size,0,none⟩ 1 1 [.int .u8 (nZ (p / 256%16))] rfl rfl (cell_one_new _ _ _) (by intro u H;simp at H;subst H;rfl) (by rw [E];unfold maxLen;omega) (by rw [E];omega) (by simp;omega) ?_;intro v' w2 A D _)
    have R:=cG (xs:=[nZ (p / 256%16)]) _ S h A (by simp;omega) D;clear A D h;go_wp2
    go_roundw
    case rel=>exact ⟨2,by omega,by go_num,by simpa [dN] using R.1,G.trans R.2⟩
    case measure=>simp [intOf]
  | 2,_=>
    have Z:=fun W=>N (p / 16) W;have ha:bits .and .i32 (p / 16) 15=p / 16%16:=aGF _ (by omega) (by omega)
    go_wp2_with (at_builtin;refine wpList_append_own _ rfl _ _ 22 rfl B 5 i0 (.int .u8 0) 1 1 underlying22 hi I O J rfl (by decide) _ _ _ rfl (ownsRow.alloc h _) ⟨wr.heap.size,0,none⟩ 1 1 [.int .u8 (nZ (p / 16%16))] rfl rfl (cell_one_new _ _ _) (by intro u H;simp at H;subst H;rfl) (by rw [E];unfold maxLen;omega) (by rw [E];omega) (by simp;omega) ?_;intro v' w2 A D _)
    have R:=cG (xs:=[nZ (p / 16%16)]) _ S h A (by simp;omega) D;clear A D h;go_wp2
    go_roundw
    case rel=>exact ⟨3,by omega,by go_num,by simpa [dN] using R.1,G.trans R.2⟩
    case measure=>simp [intOf]
  | 3,_=>
    have Z:=fun W=>N (p) W;have ha:bits .and .i32 (p) 15=p%16:=aGF _ (by omega) (by omega)
    go_wp2_with (at_builtin;refine wpList_append_own _ rfl _ _ 22 rfl B 5 i0 (.int .u8 0) 1 1 underlying22 hi I O J rfl (by decide) _ _ _ rfl (ownsRow.alloc h _) ⟨wr.heap.size,0,none⟩ 1 1 [.int .u8 (nZ (p%16))] rfl rfl (cell_one_new _ _ _) (by intro u H;simp at H;subst H;rfl) (by rw [E];unfold maxLen;omega) (by rw [E];omega) (by simp;omega) ?_;intro v' w2 A D _)
    have R:=cG (xs:=[nZ (p%16)]) _ S h A (by simp;omega) D;clear A D h;go_wp2
    go_roundw
    case rel=>exact ⟨4,by omega,by go_num,by simpa [dN] using R.1,G.trans R.2⟩
    case measure=>simp [intOf]
  | 4,_=>
    go_wp2;go_ret;exact ⟨_,rfl,h,G⟩
end
theorem aFP (p:Int) (h:0<=p) (A:p<=1114111):bits .or .u8 128 (bits .and .i32 p 63%256)=128+p%64:=by
 rw [aM2 p h (by omega),show p%64%256=p%64 by omega,aM7 _ (by omega) (by omega)]
theorem vE (p:Int) (w) (A:0<=p) (E:p<=1114111):Calls prog 188 #[.int .i32 p] w fun e h=>e=.returned (.int .u8 (128+p%64))/\w=h:=by
 have D:Hid (bits .or .u8 128 (bits .and .i32 p 63%256)=128+p%64):=aFP p A E
 go_enter func188,ntmps188
 go_wp2;go_ret;exact ⟨by rw [<- D.out];rfl,rfl⟩
end Go.Proofs.YtckcaefnokeodaaGreatDoor
