import Derived.Test.YtckcaefnokeodaaGreatDoorMBU
set_option maxHeartbeats 16000000
set_option maxRecDepth 100000
namespace Go.Proofs.YtckcaefnokeodaaGreatDoor
open Go.Proofs.Tryz Go.RowKit World
attribute [-go_sem] Builtin.append_
theorem eV.K {w:World} {w' u v t} (h:eV w.heap.size w u v t) (g:w.grownBy w' none):eV w'.heap.size w' u v t:=⟨(h.1.K g).wide g.size,(h.2.K g).wide g.size⟩
theorem eV.form {B w u v t} (h:eV B w u v t):∃ a c D A,u=.slice a t.N.length c/\v=.slice D t.tail.length A:=by
 obtain ⟨a,c,e,_⟩:=h.1;obtain ⟨D,A,E,_⟩:=h.2;exact ⟨a,c,D,A,e,E⟩
theorem aJ5 {B} {E:Nat} {w v F} (h:RdI B w v F) (O:B<=E):RdI E w v F:=by
 obtain ⟨a,A,G,J⟩:=h;refine ⟨a,A,G,fun M=>?_⟩;obtain ⟨b,D,H,N,I⟩:=J M;exact ⟨b,D,H,by omega,I⟩
theorem aCn (a:Option Addr) (G:Nat) (A:List Int) (m:Int) (w:World) (hv:RdB w.heap.size w (.slice a A.length G) A) (a4:Bys A) (d5:A.length<=G) (d4:G<=9223372036854775807) (hT:Tab w) (hM:w.cell? ⟨1,0,none⟩=some (.int .i64 m)) :
  Calls prog 3 #[.slice a A.length G] w fun e w'=>e=.returned (.bool true)/\Below w.heap.size w w':=by
 by_cases b6:1048576<A.length
 .have f1:(1048576:Int)<A.length:=(by omega);clear hv hT hM
  go_enter func3,ntmps3
  go_wp2;go_ret;exact ⟨rfl,Below.refl _ _⟩
 have f1:¬ (1048576:Int)<A.length:=by omega
 have HD:Hid (∀ W:World,w.grownBy W none->Calls prog 4 #[.slice a A.length G] W fun e w'=>∃ Y O,e=.returned (.tuple #[.agg #[Y,O],.int .i64 (uK A).2.1,.int .i64 (uK A).2.2])/\eV w'.heap.size w' Y O ⟨(uK A).1.1,(uK A).1.2⟩/\W.grownBy w' none):=
  fun W g=>aDw a G A W (mF (hv.K g) g.size) a4 (by omega) d5 d4
 have HB:=aB (aM8 a4);have HT:=aB hT;have HM:=aB hM;clear hv hT hM a4 b6;generalize g2:(uK A).2.2=i at *;generalize d9:(uK A).2.1=wd at *;obtain ⟨t,ht⟩:∃ t:Tre,t=⟨(uK A).1.1,(uK A).1.2⟩:=⟨_,rfl⟩;rw [<- ht] at HD;replace HB:Hid (Tdb t.N t.tail):=(by rw [ht];exact HB);clear ht g2 d9;have c4:=aB (HD.out w (grownBy.refl _ _))
 go_enter func3,ntmps3
 go_wp2_with fail
 refine c4.out.mono ?_;rintro e w1 ⟨Y,O,rfl,D,g1⟩;have h:=aB g1;obtain ⟨na,nc,ta,tc,I,H⟩:=D.form;obtain ⟨w2,J⟩:∃ w2,w2=w1.alloc (Obj.cells #[Y,O] 26):=⟨_,rfl⟩;have g:w1.grownBy w2 none:=(by rw [J];exact gWA);have ca:w2.cell? ⟨w1.heap.size,0,none⟩=some Y:=(by rw [J];simp [go_sem]);have cb:w2.cell? ⟨w1.heap.size,1,none⟩=some O:=(by rw [J];simp [go_sem]);have HF:=aB (HB.out.format wd i Y O w2 (D.K g));generalize g0:t.N.length=tn at I;generalize d8:t.tail.length=tt at H;replace h:=aB (aA h.out g);subst I H;clear c4 g1 D g
 go_wp2_with fail
 rw [<- J];clear J;generalize w1.heap.size=T at *;refine HF.out.mono ?_;rintro e w3 ⟨ov,rfl,ho,g⟩;replace h:=aB (aA h.out g);clear g ca cb
 by_cases hc:(ftR (cZ t) wd i t).2=0
 case neg=>
  obtain ⟨oa,oc,a0,_⟩:=ho;subst a0;clear HF;generalize (ftR (cZ t) wd i t).2=code at *;have h1:(code != 0)=true:=(by simpa using hc);clear hc;go_wp2;go_ret;exact ⟨rfl,aV h.out⟩
 case pos=>
 obtain ⟨o,c6,ps,hF⟩:=aMN HB.out hc;have S:=aB hF;rw [hc];rw [hF.ft] at ho;replace ho:RdB w3.heap.size w3 ov o:=ho;have F:=aB ho;obtain ⟨oa,oc,a0,_⟩:=id ho;generalize h8:o.length=OL at a0;subst a0;have d0:=aB (HD.out w3 h.out);clear HF hF hc ho
 go_wp2_with fail
 refine d0.out.mono ?_;rintro e w4 ⟨Y,O,rfl,D,g⟩;obtain ⟨na,nc,ta,tc,I,H⟩:=D.form;obtain ⟨w5,M⟩:∃ w5,w5=w4.alloc (Obj.cells #[Y,O] 26):=⟨_,rfl⟩;have g':w4.grownBy w5 none:=(by rw [M];exact gWA);have ca:w5.cell? ⟨w4.heap.size,0,none⟩=some Y:=(by rw [M];simp [go_sem]);have cb:w5.cell? ⟨w4.heap.size,1,none⟩=some O:=(by rw [M];simp [go_sem]);replace h:=aB (aA (aA h.out g) g');replace F:=aB (mF (F.out.K (aA g g')) (aA g g').size);have a5:=HB.out.doc i m Y O w5 (D.K g') (HT.out.K h.out) (h.out.cell HM.out (by simp));rw [S.out.bd] at a5;have c8:=aB a5;rw [g0] at I;rw [d8] at H;subst I H;clear d0 HD D g g' a5
 go_wp2_with fail
 rw [<- M];clear M;generalize w4.heap.size=T at *;refine c8.out.mono ?_;rintro e w6 ⟨dv,rfl,hd,g⟩;replace h:=aB (aA h.out g);replace F:=aB (mF (F.out.K g) g.size);replace hd:RdP w6.heap.size w6 dv ps:=hd;have Z:=aB hd;obtain ⟨da,dc,b9,_⟩:=id hd;have a7:=aBS dv ps w6 hd S.out.dc (HT.out.K h.out);rw [S.out.sv] at a7;have b7:=aB a7;generalize ps.length=PL at b9;subst b9;clear c8 g ca cb hd a7
 go_wp2_with fail
 refine b7.out.mono ?_;rintro e w7 ⟨rfl,g⟩;replace h:=aB (aA h.out g);replace F:=aB (mF (F.out.K g) g.size);replace Z:=aB ((Z.out.K g).wide g.size);have a3:=aAu _ ps wd w7 Z.out S.out.dc (HT.out.K h.out);rw [S.out.ly] at a3;have c2:=aB a3;clear b7 g a3
 go_wp2_with fail
 refine c2.out.mono ?_;rintro e w8 ⟨xv,mv,rfl,hx,hm,_,g⟩;replace h:=aB (aA h.out g);replace F:=aB (mF (F.out.K g) g.size);replace Z:=aB ((Z.out.K g).wide g.size);have c7:=aB hm.rd;obtain ⟨xa,xc,b5,_⟩:=id hx.rd;obtain ⟨ma,mc,b8,_⟩:=id hm.rd;have E:=aCh xv _ o o w8 hx.rd F.out (by have:=S.out.l;omega);rw [show decide (o=o)=true by simp] at E;have a1:=aB E;generalize o.length=XL at b5;generalize c6.length=ML at b8;subst b5 b8;clear c2 hx hm g E
 go_wp2_with fail
 refine a1.out.mono ?_;rintro e w9 ⟨rfl,mm,rfl⟩;have g:w8.grownBy (w8.drewN mm) none:=cA (grownBy.refl _ _) _;generalize w8.drewN mm=w9 at *;replace h:=aB (aA h.out g);replace F:=aB (mF (F.out.K g) g.size);replace Z:=aB ((Z.out.K g).wide g.size);have a2:=aAR _ _ ps c6 w9 Z.out S.out.dc (aJ5 (c7.out.K g) g.size) S.out.ml (HT.out.K h.out);rw [S.out.rn] at a2;have b3:=aB a2;clear a1 g a2 c7
 go_wp2_with fail
 refine b3.out.mono ?_;rintro e f0 ⟨yv,rfl,hy,g⟩;replace h:=aB (aA h.out g);replace F:=aB (mF (F.out.K g) g.size);obtain ⟨ya,yc,c0,_⟩:=id hy.rd;have E:=aCh yv _ o o f0 hy.rd F.out (by have:=S.out.l;omega);rw [show decide (o=o)=true by simp] at E;have a1:=aB E;generalize o.length=YL at c0;subst c0;clear b3 hy g E Z
 go_wp2_with fail
 refine a1.out.mono ?_;rintro e i0 ⟨rfl,mm,rfl⟩;go_wp2;go_ret;exact ⟨rfl,aV (cA h.out _)⟩
end Go.Proofs.YtckcaefnokeodaaGreatDoor
