import Derived.Test.YtmfehflibkokbaaGreatDoorMBT
set_option maxHeartbeats 16000000
set_option maxRecDepth 100000
namespace Go.Proofs.YtmfehflibkokbaaGreatDoor
open Go.Proofs.Tryz
open Go.RowKit
attribute [-go_sem] Builtin.append_
theorem eF.K {w w':World} {u v:Value} {t:Tre} (h:eF w.heap.size w u v t) (g:w.grownBy w' none):eF w'.heap.size w' u v t:=⟨(h.1.K g).wide g.size,(h.2.K g).wide g.size⟩
theorem eF.form {B:Nat} {w:World} {u v:Value} {t:Tre} (h:eF B w u v t):∃ a c A y,u=.slice a t.N.length c/\v=.slice A t.tail.length y:=by
 obtain ⟨a,c,e,_⟩:=h.1;obtain ⟨A,y,D,_⟩:=h.2;exact ⟨a,c,A,y,e,D⟩
theorem aD7:∀ (y:List Nod) (k:Nat) (A:k<y.length),lnS (y.take (k+1))=lnS (y.take k)+lnN y[k]
 | n::y,0,_=>by simp [lnS]
 | n::y,k+1,h=>by
   have:=aD7 y k (by simpa using h);simp only [List.take_succ_cons,lnS,this,List.getElem_cons_succ];omega
theorem aGV:∀ (h:List Nod) (k:Nat),lnS (h.take k)<=lnS h
 | [],k=>by simp
 | n::h,0=>by simp [lnS]
 | n::h,k+1=>by have:=aGV h k;simp only [List.take_succ_cons,lnS];omega
theorem aIq (o:List Int) (k:Nat) (y:k<o.length):(o.take (k+1)).count 10=(o.take k).count 10+(if o[k]?.getD 0=10 then 1 else 0):=by
 rw [List.take_add_one,List.count_append,List.getElem?_eq_getElem y];simp only [Option.toList_some,Option.getD_some]
 by_cases h:o[k]=10
 ·simp [h]
 ·simp [h]
theorem aLK (o:List Int) (k:Nat):(o.take k).count 10<=o.count 10:=(List.take_sublist k o).count_le 10
theorem aKp {B:Nat} {w:World} {a:Option Addr} {c n:Nat} {ps qs:List Pc} (h:RdP B w (.slice a n c) (ps++qs)):RdP B w (.slice a ps.length c) ps:=by
 obtain ⟨S,O,e,G,M,E⟩:=h;rw [List.length_append] at G;cases e;refine ⟨_,_,rfl,by omega,M,fun A=>?_⟩;obtain ⟨b,off,J,N,D⟩:=E (by simp [A]);exact ⟨b,off,J,N,fun j p y=>D j p (by rw [List.getElem?_append_left (List.getElem?_eq_some_iff.1 y).1];exact y)⟩
theorem aA7 (a:Option Addr) (cap:Nat) (zs:List Int) (m:Int) (w:World) (hv:RdB w.heap.size w (.slice a zs.length cap) zs) (i6:Bys zs) (j9:zs.length<=cap) (k3:cap<=9223372036854775807) (hT:Tab w) (hM:w.cell? ⟨1,0,none⟩=some (.int .i64 m)) :
  Calls prog 3 #[.slice a zs.length cap] w fun e w'=>e=.returned (.bool true)/\Below w.heap.size w w':=by
 by_cases j1:1048576<zs.length
 ·have l4:(1048576:Int)<zs.length:=(by omega);clear hv hT hM
  go_enter func3,ntmps3
  go_wp2;go_ret;exact ⟨rfl,Below.refl _ _⟩
 have l4:¬ (1048576:Int)<zs.length:=(by omega);have HD:=aB (aAL a cap zs w hv i6 (by omega) j9 k3);have HT:=aB hT;have HM:=aB hM;clear hv hT hM i6 j1
 go_enter func3,ntmps3
 go_wp2_with fail
 refine HD.out.mono ?_;rintro e w1 ⟨nv,tv,kk,i,rfl,hi,⟨t,d8,d5⟩,g1⟩;have y:=aB g1;obtain ⟨na,nc,ta,tc,g2,i5⟩:=d8.form;have Z:=aB d5.str;have l8:=aB (aHh t);obtain ⟨w2,b2⟩:∃ w2,w2=w1.alloc (Obj.cells #[nv,tv] 26):=⟨_,rfl⟩;have g:w1.grownBy w2 none:=(by rw [b2];exact gWA);have b6:Hid (∀ W:World,w2.grownBy W none->Calls prog 5 #[.agg #[nv,tv]] W fun e w'=>∃ g8,e=.returned (.agg #[g8,.slice none 0 0])/\eF w'.heap.size w' g8 (.slice none 0 0) (aAS t)/\W.grownBy w' none):=fun W gW=>d5.strip nv tv W (d8.K (aA g gW));have D:w2.cell? ⟨w1.heap.size,0,none⟩=some nv:=(by rw [b2];simp [go_sem]);have E:w2.cell? ⟨w1.heap.size,1,none⟩=some tv:=(by rw [b2];simp [go_sem]);generalize t.N.length=tn at g2;generalize t.tail.length=tt at i5;generalize aAS t=t' at *;replace y:=aB (aA y.out g);subst g2 i5;clear HD g1 d8 d5 g;clear t
 go_wp2_with fail
 rw [<- b2];clear b2;generalize w1.heap.size=T at *;refine (b6.out w2 (World.grownBy.refl _ _)).mono ?_;rintro e w3 ⟨bv,rfl,S,g⟩;replace D:=g.cell D (by simp);replace E:=g.cell E (by simp);have A:=aB g;replace y:=aB (aA y.out g);clear g;obtain ⟨w4,b4⟩:∃ w4,w4=w3.alloc (Obj.cells #[bv,.slice none 0 0] 26):=⟨_,rfl⟩;have g:w3.grownBy w4 none:=(by rw [b4];exact gWA);have ba:w4.cell? ⟨w3.heap.size,0,none⟩=some bv:=(by rw [b4];simp [go_sem]);have bb:w4.cell? ⟨w3.heap.size,1,none⟩=some (.slice none 0 0):=(by rw [b4];simp [go_sem]);replace D:=g.cell D (by simp);replace E:=g.cell E (by simp);replace A:=aB (aA A.out g);replace y:=aB (aA y.out g);have b3:=aB (S.K g);have g7:=aB (Z.out.build i _ _ w4 b3.out);obtain ⟨b0,bc,U,_⟩:=id S.1;subst U;clear g S
 go_wp2_with fail
 rw [<- b4];clear b4;generalize w3.heap.size=B at *;refine g7.out.mono ?_;rintro e w5 ⟨da,dn,dc,rfl,g⟩;replace D:=g.cell D (by simp);replace E:=g.cell E (by simp);replace ba:=g.cell ba (by simp);replace A:=aB (aA A.out g);replace y:=aB (aA y.out g);replace b3:=aB (b3.out.K g);clear g g7
 by_cases hc:(bdR (cC t') i t').2=0
 case neg=>
  generalize (bdR (cC t') i t').2=code at *;have o3:(code != 0)=true:=(by simpa using hc);clear hc;go_wp2;go_ret;exact ⟨rfl,aT y.out⟩
 case pos=>
 rw [hc];obtain ⟨o0,o1,s,ps,hF⟩:=aKX Z.out l8.out hc;have Y:=aB hF;have q5:lnS t'.N+1<=560140000:=(by rw [<- hF.c0];exact Nat.le_trans List.count_le_length hF.l0);have o8:=Z.out.l;clear hF hc;go_wp2
 go_loopw [9,10] (fun ln k W=>∃ j:Nat,j<=t'.N.length/\k=.int .i64 j/\ln=.int .i64 ((1+lnS (t'.N.take j):Nat):Int)/\w5.grownBy W none) (fun _ k _=>t'.N.length - (intOf k).toNat)
 case atStart=>exact ⟨0,Nat.zero_le _,rfl,by simp [lnS],World.grownBy.refl _ _⟩
 case round=>
  obtain ⟨j,hj,rfl,rfl,h⟩:=hrel
  by_cases b8:j<t'.N.length
  ·obtain ⟨b,off,i7,lv,kv,xv,uv,p5,d6,S,hp⟩:=(b3.out.1.K h).at j b8;cases d6;have z6:=hp.C;have c0:=h.cell ba (by simp);have HS:=aB (aD7 t'.N j b8);have h1:=aGV t'.N (j+1);rw [HS.out] at h1;unfold lnN at HS h1;have HG:=aB h;clear hp h;generalize lnS (t'.N.take j)=P at *;generalize t'.N[j]=p at *
   by_cases c2:0<p.C
   ·rw [if_pos c2] at HS h1;go_wp2
    go_roundw
    case rel=>exact ⟨j+1,by omega,by go_num,by rw [HS.out];go_num,HG.out⟩
    case measure=>simp [intOf];omega
   ·rw [if_neg c2] at HS h1;go_wp2
    go_roundw
    case rel=>exact ⟨j+1,by omega,by go_num,by rw [HS.out];go_num,HG.out⟩
    case measure=>simp [intOf];omega
  ·have d4:j=t'.N.length:=(by omega);subst d4;have ht:t'.N.take t'.N.length=t'.N:=List.take_length;rw [ht];generalize g3:1+lnS t'.N=LL at *;have k6:=aB g3;clear g3;have HG:=aB h;replace D:=h.cell D (by simp);replace E:=h.cell E (by simp);replace y:=aB (aA y.out h);replace A:=aB (aA A.out h);replace ba:=h.cell ba (by simp);clear b3 ht h HG;have J:=aB (b6.out wr A.out)
   go_wp2_with fail
   refine J.out.mono ?_;rintro e w6 ⟨bv,rfl,S,g⟩;replace D:=g.cell D (by simp);replace E:=g.cell E (by simp);replace y:=aB (aA y.out g);replace A:=aB (aA A.out g);clear g;obtain ⟨b1,c1,U,_⟩:=id S.1;have G:=Z.out.format 0 i m _ _ w6 S (HT.out.K y.out) (y.out.cell HM.out (by simp));rw [Y.out.f0] at G;have O:=aB G;subst U;clear S G J ba
   go_wp2_with fail
   refine O.out.mono ?_;rintro e w7 ⟨ov,rfl,ho,g⟩;replace D:=g.cell D (by simp);replace E:=g.cell E (by simp);replace y:=aB (aA y.out g);replace A:=aB (aA A.out g);clear g;obtain ⟨oa,oc,d9,_,_⟩:=Ow.sl ho;have HO:=aB ho.rd;have q0:=Y.out.l0;have j0:o0.count 10<=o0.length:=List.count_le_length;replace d9:ov=.slice oa o0.length oc:=d9;generalize d7:o0.length=OL at *;subst d9;clear O ho;go_wp2
   go_loopw [13,14] (fun n k W=>∃ j:Nat,j<=OL/\k=.int .i64 j/\n=.int .i64 (((o0.take j).count 10:Nat):Int)/\w7.grownBy W none) (fun _ k _=>OL - (intOf k).toNat)
   case atStart=>exact ⟨0,Nat.zero_le _,rfl,by simp,World.grownBy.refl _ _⟩
   case round=>
    obtain ⟨j,hj,rfl,rfl,h⟩:=hrel
    by_cases b8:j<OL
    ·obtain ⟨a',i7,d6,hr⟩:=HO.out.K h;have a7:j<o0.length:=(by omega);obtain ⟨b,off,ha,_,a6⟩:=hr (fun e=>by rw [e] at a7;simp at a7);have zc:=a6 j a7;cases d6;subst ha;have HS:=aB (aIq o0 j a7);have h1:=aLK o0 (j+1);rw [HS.out] at h1;have HG:=aB h;clear hr a6 h a7 d7;generalize o0[j]?.getD 0=z at *;generalize (o0.take j).count 10=P at *
     by_cases hz:z=10
     ·rw [if_pos hz] at HS h1;have k4:(z==10)=true:=(by simpa using hz);clear hz;go_wp2
      go_roundw
      case rel=>exact ⟨j+1,by omega,by go_num,by rw [HS.out];go_num,HG.out⟩
      case measure=>simp [intOf];omega
     ·rw [if_neg hz] at HS h1;have k4:(z==10)=false:=(by simpa using hz);clear hz;go_wp2
      go_roundw
      case rel=>exact ⟨j+1,by omega,by go_num,by rw [HS.out];go_num,HG.out⟩
      case measure=>simp [intOf];omega
    ·have d4:j=OL:=(by omega);subst d4;have h7:(o0.take j).count 10=LL:=(by rw [<- d7,List.take_length,Y.out.c0,<- k6.out];omega);rw [h7];replace D:=h.cell D (by simp);replace E:=h.cell E (by simp);replace y:=aB (aA y.out h);replace A:=aB (aA A.out h);have c9:((LL:Int) != (LL:Int))=false:=(by simp);clear h7 h HO d7 b8 hj j0;have J:=aB (b6.out wr A.out)
     go_wp2_with fail
     refine J.out.mono ?_;rintro e w8 ⟨bv,rfl,S,g⟩;replace D:=g.cell D (by simp);replace E:=g.cell E (by simp);replace y:=aB (aA y.out g);replace A:=aB (aA A.out g);clear g;obtain ⟨b1,c1,U,_⟩:=id S.1;have G:=Z.out.doc i m _ _ w8 S (HT.out.K y.out) (y.out.cell HM.out (by simp));rw [Y.out.bd] at G;have O:=aB G;subst U;clear S G J
     go_wp2_with fail
     refine O.out.mono ?_;rintro e w9 ⟨dv,rfl,hd,g⟩;replace D:=g.cell D (by simp);replace E:=g.cell E (by simp);replace y:=aB (aA y.out g);replace A:=aB (aA A.out g);clear g;obtain ⟨ea,ec,a9,k9,l3,_⟩:=id hd;have o6:=Y.out.pl;have q3:=Y.out.dc.len;obtain ⟨L,hL⟩:∃ L,L=(ps++[⟨4,[],0⟩,nF]).length:=⟨_,rfl⟩;replace a9:dv=.slice ea (ps++[⟨4,[],0⟩,nF]).length ec:=a9;replace hd:RdP w9.heap.size w9 dv (ps++[⟨4,[],0⟩,nF]):=hd;rw [<- hL] at a9 k9;rw [a9] at hd;subst a9;have HP:=aB (aKp hd);have l5:(L:Int) - 2=(ps.length:Int):=(by rw [hL];simp);have k1:¬ (L:Int)<3:=(by omega);have k7:ps.length<=ec:=(by omega);have H9:=aB y.out.size;have d2:=aB0 _ ps w9 HP.out Y.out.dc (HT.out.K y.out);rw [Y.out.fb,Y.out.fl] at d2;have i1:=aB d2;unfold maxLen at l3;clear hd hL d2 O;generalize p0:ps.length=PL at *
     go_wp2_with fail
     refine i1.out.mono ?_;rintro e i9 ⟨fv,rfl,hf,g⟩;have m3:=g.size;replace D:=g.cell D (by simp);replace E:=g.cell E (by simp);replace y:=aB (aA y.out g);replace A:=aB (aA A.out g);clear g;obtain ⟨fa,fc,j8,o4,q1⟩:=Ow.sl hf;have p4:=Y.out.sl;have d3:=aB (uR fv s i9 hf.rd Y.out.sb (by omega));have HO:=aB hf;have i3:∀ x,fv.ownBlock=some x->x<i9.heap.size:=fun x e=>(World.ownsRow.lt hf x e).2;have k0:=aB i3;generalize n8:s.length=SL at *;subst j8;clear i1 hf i3 HP l5 k1 k7
     go_wp2_with fail
     refine d3.out.mono ?_;rintro e l2 ⟨rfl,g⟩;have m5:=g.size;replace HO:=aB (World.ownsRow.kept HO.out g (by cases (Value.slice fa SL fc).ownBlock<;>simp));replace D:=g.cell D (by simp);replace E:=g.cell E (by simp);replace y:=aB (aA y.out g);replace A:=aB (aA A.out g);clear g
     by_cases hw:65535<aI s
     ·clear d3;generalize aI s=ws at *;go_wp2;go_ret;exact ⟨rfl,aT y.out⟩
     ·have h6:=Y.out.one (by omega);have k5:=aB h6;generalize aI s=ws at *;clear d3 h6;have J:=aB (b6.out l2 A.out)
      go_wp2_with fail
      refine J.out.mono ?_;rintro e i2 ⟨bv,rfl,S,g⟩;have n6:=g.size;replace HO:=aB (World.ownsRow.kept HO.out g (by cases (Value.slice fa SL fc).ownBlock<;>simp));replace D:=g.cell D (by simp);replace E:=g.cell E (by simp);replace y:=aB (aA y.out g);replace A:=aB (aA A.out g);clear g;obtain ⟨b1,c1,U,_⟩:=id S.1;have G:=Z.out.format 65535 i m _ _ i2 S (HT.out.K y.out) (y.out.cell HM.out (by simp));rw [Y.out.f1] at G;have O:=aB G;subst U;clear S G J
      go_wp2_with fail
      refine O.out.mono ?_;rintro e M ⟨qv,rfl,hq,g⟩;have m0:=g.size;replace HO:=aB (World.ownsRow.kept HO.out g (by cases (Value.slice fa SL fc).ownBlock<;>simp));replace D:=g.cell D (by simp);replace E:=g.cell E (by simp);replace y:=aB (aA y.out g);replace A:=aB (aA A.out g);clear g;obtain ⟨qa,qc,d1,_,_⟩:=Ow.sl hq;replace d1:qv=.slice qa o1.length qc:=d1;replace hq:OwB i2.heap.size M qv o1:=hq;have HQ:=aB hq;have p2:=Y.out.l1;generalize q6:o1.length=QL at *;subst d1;clear O hq;have gA:=World.grownBy_alloc M (Obj.cells #[.int .u8 10] 5) none
      have c5:Rd .u8 (M.alloc (Obj.cells #[.int .u8 10] 5)).heap.size (M.alloc (Obj.cells #[.int .u8 10] 5)) (.slice (some ⟨M.heap.size,0,none⟩) 1 1) [10]:=⟨_,1,rfl,fun _=>⟨M.heap.size,0,rfl,by simp,fun j hj=>by
       have l9:j=0:=(by simpa using hj);subst l9;simp [go_sem]⟩⟩
      have i4:w9.heap.size<=M.heap.size:=(by omega);obtain ⟨av,b7,m2,c8,X,_⟩:=lR w9.heap.size _ (M.alloc (Obj.cells #[.int .u8 10] 5)) (.slice fa SL fc) _ s [10] (World.ownsRow.kept HO.out gA (by cases (Value.slice fa SL fc).ownBlock<;>simp)) c5 (by simp;omega) (by simp;omega)
      have c9:(Value.slice qa QL qc).ownBlock=none\/(Value.slice qa QL qc).ownBlock≠(Value.slice fa SL fc).ownBlock:=by
       cases h1:(Value.slice qa QL qc).ownBlock with
       | none=>exact .inl rfl
       | some x=>
         refine .inr (fun e=>?_);have h2:=(World.ownsRow.lt HQ.out x h1).1;have h3:=k0.out x e.symm;omega
      have c4:RdB b7.heap.size b7 (.slice qa QL qc) o1:=Ow.rd (World.ownsRow.kept (World.ownsRow.kept HQ.out gA (by cases (Value.slice qa QL qc).ownBlock<;>simp)) X c9);have h5:=aB (aGG _ _ _ _ b7 c4 c8.rd (by omega))
      have c3:Below w.heap.size w b7:=by
       have h0:=y.out.size;have h1:=gA.size;refine (aT y.out).trans ⟨by rw [X.os,gA.os],by rw [X.tape,gA.tape],by rw [X.output,gA.output],Nat.le_trans h1 X.size,fun k hk=>?_⟩;have h9:=H9.out;rw [X.block k (by omega) (fun e=>by have:=(World.ownsRow.lt HO.out k e.symm).1;omega),gA.block k (by omega) (by simp)]
      have c7:=aB c3;have hd:decide (o1=s++[10])=true:=(by simpa using k5.out);rw [hd] at h5;obtain ⟨aa,ac,h8,_⟩:=c8.rd;generalize (s++[10]).length=AL at h8;subst h8;clear c8 X gA c5 c4 c9 i4 c3 hd
      go_wp2_with fail
      refine h5.out.mono ?_;rintro e o2 ⟨rfl,mm,rfl⟩;go_wp2;go_ret;exact ⟨rfl,c7.out.trans ((aT (cO (World.grownBy.refl _ _) _)).mono c7.out.size)⟩
end Go.Proofs.YtmfehflibkokbaaGreatDoor
