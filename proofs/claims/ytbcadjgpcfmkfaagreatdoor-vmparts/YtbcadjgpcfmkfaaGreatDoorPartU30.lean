/- ExprW; StmtB. -/
import Derived.Lib.AtoiAllCases
import Derived.Test.YtbcadjgpcfmkfaaGreatDoorPartU29
import Derived.Test.YtbcadjgpcfmkfaaGreatDoorPartU1
set_option maxHeartbeats 0
set_option maxRecDepth 100000
set_option linter.unusedSimpArgs false
namespace Go.Proofs.YtbcadjgpcfmkfaaGreatDoor
open Go Go.RowKit
section
theorem wh (v:Bs) (n:Int) (hA:Lib.atoiAll v=.ok n) (w:World) (hv:v.length<=1500):
 Calls Tryz.prog 83 #[.string (bs v)] w fun e w'=>e=.returned (.tuple #[.int .i64 n,.nilIface])/\Fr nothing w w':=
 (Tryz.strconv_Atoi_ok (bs v) (by rw[dz];omega) n hA w).mono fun e w' hh=>by
  obtain⟨h1,h2|⟨t,h2⟩⟩:=hh
  ·subst h2;exact⟨h1,Fr.refl _ _⟩
  ·subst h2;exact⟨h1,Fr.of_below (Lib.bytesWorld_below _ _ _) (Nat.le_refl _) nothing⟩
theorem zJ (v:Bs) (w:World) (hE:Er w) (hv:v.length<=1500) (h:∀n,Lib.atoiAll v≠ .ok n):
 Calls Tryz.prog 83 #[.string (bs v)] w fun e w'=>∃n N,e=.returned (.tuple #[.int .i64 n,.iface 168 (.pointer (some ⟨N,0,none⟩))])/\Fr nothing w w':=by
 have hs:=dz v;cases hA:Lib.atoiAll v with
 |ok n=>exact absurd hA (h n)
 |«syntax»=>
  obtain⟨ev,h1,h2⟩:=hE.s;exact(Tryz.strconv_Atoi_syntax (bs v) (by omega) hA ev w h1 h2).mono fun e w' ⟨N,k,_,_,b⟩=>⟨_,N,k,Fr.of_below b (Nat.le_refl _) nothing⟩
 |range=>
  obtain⟨ev,h1,h2⟩:=hE.r;exact(Tryz.strconv_Atoi_range (bs v) (by omega) hA ev w h1 h2).mono fun e w' ⟨N,k,_,_,b⟩=>⟨_,N,k,Fr.of_below b (Nat.le_refl _) nothing⟩
theorem sV (n:Int) (h0:-9223372036854775808<=n) (h1:n<=9223372036854775807) (w:World) (ht:rC w):
 Calls Tryz.prog 78 #[.int .i64 n] w fun e w'=>e=.returned (.string (bs (Lib.itoa n)))/\Fr nothing w w':=
 (Tryz.strconv_Itoa n h0 h1 w ht).mono fun e w' ⟨k1,k,os,h⟩=>by
  subst h;exact⟨k1,CO _ _ _⟩
theorem QF {v:Bs} {n:Int} (hA:Lib.atoiAll v=.ok n):numOf v=if Lib.itoa n=v then some n else none:=by
 unfold numOf;rw[hA]
theorem QG {v:Bs} (hA:∀n,Lib.atoiAll v≠ .ok n):numOf v=none:=by
 unfold numOf;split
 ·rename_i n h;exact absurd h (hA n)
 ·rfl
theorem gK {w w':World} (h:Fr nothing w w') (rb:Nat):Fr (at_ rb) w w':=h.mono (fun _ _ e=>e.elim)
theorem iE {l:Bs} {c:UInt8} (hc:c≠0/\c≠1) (h:l.head?≠some c):¬((bS l).toNat:Int)=(c.toNat:Int):=by
 intro e;have e2:bS l=c:=UInt8.toNat_inj.1 (by omega);cases l with
 |nil=>exact hc.1 (by rw[<-e2];rfl)
 |cons x t=>
  rw[sO hc] at e2;subst e2;exact h rfl
set_option maxHeartbeats 1000000 in
set_option maxRecDepth 20000 in
theorem AZ (w0:World) (rb:Nat) (l:Bs) (d:Int) (w:World) (h:Pw w0 rb l 0 w) (hd:d<=10) (wC:(skip l).head?≠some 39) (wD:(skip l).head?≠some 40) {v l':Bs} {z:Int} (hw:word (skip l) 0=⟨v,l',z⟩) {n:Int} (hA:Lib.atoiAll v=.ok n) (hI:Lib.itoa n=v) (hin:wN n=true):
 Calls Tryz.prog 80 #[.pointer (some ⟨rb,0,none⟩),.int .i64 d] w (cO ev bF rb w ⟨.mk 1 n [] [],l',z⟩):=by
 have HD:=hide (dN rb l 0 d _ (h.pr.fr (EY w rb d) (S:=nothing) id));have hrb:=h.pr.lt;have e0:bE d 0=0:=by simp[bE];omega
 rw[e0] at HD;have hl:=h.len;have hsl:=aG l;have hvl:v.length<=1500:=by
  have:v=(word (skip l) 0).v:=by rw[hw]
  rw[this];exact Nat.le_trans (List.takeWhile_sublist _).length_le (Nat.le_trans (aG _) (by omega))
 have n39:¬((bS (skip l)).toNat:Int)=39:=iE (c:=39) (by decide) wC;have n40:¬((bS (skip l)).toNat:Int)=40:=iE (c:=40) (by decide) wD;have q39:(((bS (skip l)).toNat:Int)==39)=false:=by simpa using n39
 have b40:=gF n40;have HW:=hide hw;have HH:=hide h;have HN:=hide (fun w=>jL v w hvl);have Yc:Hid (∀w',Fr (at_ rb) (lI w rb d) w'->rC w'):=fun w' hf=>Lib.tabBelow_of_tabIs HH.out.tab w' (HH.out.vE.trans (((EY w rb d).trans hf).below HH.out.vE.size (fun k hk e=>by have:=HH.out.ge;have:k=rb:=e;omega)))
 have hb:=Lib.atoiAll_bounds hA;have hr:-1073741824<=n/\n<=1073741824:=by simpa[wN] using hin
 have r1:¬n< -1073741824:=by omega
 have r2:¬1073741824<n:=by omega
 have HI:=hide hI;clear hI hin;clear h e0 hw wC wD
 go_enter Tryz.func80,Tryz.ntmps80
 go_wp2_with (first
  |(go_at_call 79;refine HD.out.mono ?_;rintro e w2 ⟨rfl,hp,hf⟩;have hpk:=eP rb l 0 w2 hp hl;have oO:=hide hpk;obtain⟨b0,b1,-,-,-,-,-,-,-,-,hlt⟩:=boxes hrb hf;have HF:=hide hf;clear hp hf hpk)
  |(go_at_call 53;refine oO.out.mono ?_;rintro e w4 ⟨rfl,hp,hf⟩;have gm:=HF.out.trans hf;clear b0 b1 hlt;obtain⟨b0,b1,-,-,-,-,-,-,-,-,hlt⟩:=boxes hrb gm;have hwd:=eU rb (skip l) 0 w4 hp (by omega);rw[HW.out] at hwd;have qO:=hide hwd;have gX:=hide gm;clear hp hf gm hwd)
  |(go_at_call 66;refine qO.out.mono ?_;rintro e w5 ⟨rfl,hp,hf⟩;have cK:=gX.out.trans hf;clear b0 b1 hlt;obtain⟨b0,b1,c0,c1,c2,c3,f0,f1,f2,f3,hlt⟩:=boxes hrb cK;have zK:=hide hp;have aX:=hide cK;clear hp hf cK)
  |(go_at_call 83;refine(wh v n hA _ hvl).mono ?_;rintro e w6 ⟨rfl,hfa⟩;have aR:=aX.out.trans (gK hfa rb);clear b0 b1 c0 c1 c2 c3 f0 f1 f2 f3 hlt;obtain⟨b0,b1,c0,c1,c2,c3,f0,f1,f2,f3,hlt⟩:=boxes hrb aR;have Cc:=hide (zK.out.fr hfa id);have bg:=hide aR;clear hfa aR)
  |(go_at_call 78;refine(sV n hb.1 hb.2 _ (Yc.out _ bg.out)).mono ?_;rintro e w7 ⟨rfl,hfi⟩;rw[HI.out];have dZ:=bg.out.trans (gK hfi rb);clear b0 b1 c0 c1 c2 c3 f0 f1 f2 f3 hlt;obtain⟨b0,b1,c0,c1,c2,c3,f0,f1,f2,f3,hlt⟩:=boxes hrb dZ;have Du:=hide (Cc.out.fr hfi id);have dH:=hide dZ;clear hfi dZ)
  )
 refine bodyPost_ret (v:=ev ⟨1,n,[],aN⟩) (by simp[results,Tryz.results80,go_sem,c0,c1,c2,c3,bs]) rfl ?_
 exact kI (res:=⟨.mk 1 n [] [],l',z⟩) hrb dH.out Du.out (jD _ _ _ _ _) _ _ _ _
set_option maxHeartbeats 1000000 in
set_option maxRecDepth 20000 in
theorem A8 (w0:World) (rb:Nat) (l:Bs) (d:Int) (w:World) (h:Pw w0 rb l 0 w) (hd:d<=10) (wC:(skip l).head?≠some 39) (wD:(skip l).head?≠some 40) {v l':Bs} {z:Int} (hw:word (skip l) 0=⟨v,l',z⟩) {n:Int} (hA:Lib.atoiAll v=.ok n) (hI:Lib.itoa n=v) (hin:wN n=false):
 Calls Tryz.prog 80 #[.pointer (some ⟨rb,0,none⟩),.int .i64 d] w (cO ev bF rb w ⟨.mk 1 n [] [],l',bad z 3⟩):=by
 have HD:=hide (dN rb l 0 d _ (h.pr.fr (EY w rb d) (S:=nothing) id));have hrb:=h.pr.lt;have e0:bE d 0=0:=by simp[bE];omega
 rw[e0] at HD;have hl:=h.len;have hsl:=aG l;have hvl:v.length<=1500:=by
  have:v=(word (skip l) 0).v:=by rw[hw]
  rw[this];exact Nat.le_trans (List.takeWhile_sublist _).length_le (Nat.le_trans (aG _) (by omega))
 have n39:¬((bS (skip l)).toNat:Int)=39:=iE (c:=39) (by decide) wC;have n40:¬((bS (skip l)).toNat:Int)=40:=iE (c:=40) (by decide) wD;have q39:(((bS (skip l)).toNat:Int)==39)=false:=by simpa using n39
 have b40:=gF n40;have HW:=hide hw;have HH:=hide h;have HN:=hide (fun w=>jL v w hvl);have Yc:Hid (∀w',Fr (at_ rb) (lI w rb d) w'->rC w'):=fun w' hf=>Lib.tabBelow_of_tabIs HH.out.tab w' (HH.out.vE.trans (((EY w rb d).trans hf).below HH.out.vE.size (fun k hk e=>by have:=HH.out.ge;have:k=rb:=e;omega)))
 have hb:=Lib.atoiAll_bounds hA;have hr:1073741824<n\/(¬1073741824<n/\n< -1073741824):=by
  have:¬(-1073741824<=n/\n<=1073741824):=by intro h;rw[show wN n=true by simp[wN,h]] at hin;cases hin
  omega
 have HI:=hide hI;clear hI hin;rcases hr with hr|hr
 all_goals
 clear h e0 hw wC wD
 go_enter Tryz.func80,Tryz.ntmps80
 go_wp2_with (first
  |(go_at_call 79;refine HD.out.mono ?_;rintro e w2 ⟨rfl,hp,hf⟩;have hpk:=eP rb l 0 w2 hp hl;have oO:=hide hpk;obtain⟨b0,b1,-,-,-,-,-,-,-,-,hlt⟩:=boxes hrb hf;have HF:=hide hf;clear hp hf hpk)
  |(go_at_call 53;refine oO.out.mono ?_;rintro e w4 ⟨rfl,hp,hf⟩;have gm:=HF.out.trans hf;clear b0 b1 hlt;obtain⟨b0,b1,-,-,-,-,-,-,-,-,hlt⟩:=boxes hrb gm;have hwd:=eU rb (skip l) 0 w4 hp (by omega);rw[HW.out] at hwd;have qO:=hide hwd;have gX:=hide gm;clear hp hf gm hwd)
  |(go_at_call 66;refine qO.out.mono ?_;rintro e w5 ⟨rfl,hp,hf⟩;have cK:=gX.out.trans hf;clear b0 b1 hlt;obtain⟨b0,b1,c0,c1,c2,c3,f0,f1,f2,f3,hlt⟩:=boxes hrb cK;have zK:=hide hp;have aX:=hide cK;clear hp hf cK)
  |(go_at_call 83;refine(wh v n hA _ hvl).mono ?_;rintro e w6 ⟨rfl,hfa⟩;have aR:=aX.out.trans (gK hfa rb);clear b0 b1 c0 c1 c2 c3 f0 f1 f2 f3 hlt;obtain⟨b0,b1,c0,c1,c2,c3,f0,f1,f2,f3,hlt⟩:=boxes hrb aR;have Cc:=hide (zK.out.fr hfa id);have bg:=hide aR;clear hfa aR)
  |(go_at_call 78;refine(sV n hb.1 hb.2 _ (Yc.out _ bg.out)).mono ?_;rintro e w7 ⟨rfl,hfi⟩;rw[HI.out];have dZ:=bg.out.trans (gK hfi rb);clear b0 b1 c0 c1 c2 c3 f0 f1 f2 f3 hlt;obtain⟨b0,b1,c0,c1,c2,c3,f0,f1,f2,f3,hlt⟩:=boxes hrb dZ;have Du:=hide (Cc.out.fr hfi id);have dH:=hide dZ;clear hfi dZ)
  |(go_at_call 65;refine(eT rb l' z 3 _ Du.out).mono ?_;rintro e w9 ⟨rfl,hp,hf⟩;have iI:=dH.out.trans hf;clear b0 b1 c0 c1 c2 c3 f0 f1 f2 f3 hlt;obtain⟨b0,b1,c0,c1,c2,c3,f0,f1,f2,f3,hlt⟩:=boxes hrb iI;have HP9:=hide hp;have nM:=hide iI;clear hp hf iI)
  )
 refine bodyPost_ret (v:=ev ⟨1,n,[],aN⟩) (by simp[results,Tryz.results80,go_sem,c0,c1,c2,c3,bs]) rfl ?_
 exact kI (res:=⟨.mk 1 n [] [],l',bad z 3⟩) hrb nM.out HP9.out (jD _ _ _ _ _) _ _ _ _
set_option maxHeartbeats 1000000 in
set_option maxRecDepth 20000 in
theorem sW (w0:World) (rb:Nat) (l:Bs) (d:Int) (w:World) (h:Pw w0 rb l 0 w) (hd:d<=10) (wC:(skip l).head?≠some 39) (wD:(skip l).head?≠some 40) {v l':Bs} {z:Int} (hw:word (skip l) 0=⟨v,l',z⟩) {n:Int} (hA:Lib.atoiAll v=.ok n) (hI:¬Lib.itoa n=v) (hn:isName v=true):
 Calls Tryz.prog 80 #[.pointer (some ⟨rb,0,none⟩),.int .i64 d] w (cO ev bF rb w ⟨.mk 3 0 v [],l',z⟩):=by
 have HD:=hide (dN rb l 0 d _ (h.pr.fr (EY w rb d) (S:=nothing) id));have hrb:=h.pr.lt;have e0:bE d 0=0:=by simp[bE];omega
 rw[e0] at HD;have hl:=h.len;have hsl:=aG l;have hvl:v.length<=1500:=by
  have:v=(word (skip l) 0).v:=by rw[hw]
  rw[this];exact Nat.le_trans (List.takeWhile_sublist _).length_le (Nat.le_trans (aG _) (by omega))
 have n39:¬((bS (skip l)).toNat:Int)=39:=iE (c:=39) (by decide) wC;have n40:¬((bS (skip l)).toNat:Int)=40:=iE (c:=40) (by decide) wD;have q39:(((bS (skip l)).toNat:Int)==39)=false:=by simpa using n39
 have b40:=gF n40;have HW:=hide hw;have HH:=hide h;have HN:=hide (fun w=>jL v w hvl);have Yc:Hid (∀w',Fr (at_ rb) (lI w rb d) w'->rC w'):=fun w' hf=>Lib.tabBelow_of_tabIs HH.out.tab w' (HH.out.vE.trans (((EY w rb d).trans hf).below HH.out.vE.size (fun k hk e=>by have:=HH.out.ge;have:k=rb:=e;omega)))
 have hb:=Lib.atoiAll_bounds hA;have q1:=uW hI;rw[hn] at HN;clear hI;clear h e0 hw wC wD
 go_enter Tryz.func80,Tryz.ntmps80
 go_wp2_with (first
  |(go_at_call 79;refine HD.out.mono ?_;rintro e w2 ⟨rfl,hp,hf⟩;have hpk:=eP rb l 0 w2 hp hl;have oO:=hide hpk;obtain⟨b0,b1,-,-,-,-,-,-,-,-,hlt⟩:=boxes hrb hf;have HF:=hide hf;clear hp hf hpk)
  |(go_at_call 53;refine oO.out.mono ?_;rintro e w4 ⟨rfl,hp,hf⟩;have gm:=HF.out.trans hf;clear b0 b1 hlt;obtain⟨b0,b1,-,-,-,-,-,-,-,-,hlt⟩:=boxes hrb gm;have hwd:=eU rb (skip l) 0 w4 hp (by omega);rw[HW.out] at hwd;have qO:=hide hwd;have gX:=hide gm;clear hp hf gm hwd)
  |(go_at_call 66;refine qO.out.mono ?_;rintro e w5 ⟨rfl,hp,hf⟩;have cK:=gX.out.trans hf;clear b0 b1 hlt;obtain⟨b0,b1,c0,c1,c2,c3,f0,f1,f2,f3,hlt⟩:=boxes hrb cK;have zK:=hide hp;have aX:=hide cK;clear hp hf cK)
  |(go_at_call 83;refine(wh v n hA _ hvl).mono ?_;rintro e w6 ⟨rfl,hfa⟩;have aR:=aX.out.trans (gK hfa rb);clear b0 b1 c0 c1 c2 c3 f0 f1 f2 f3 hlt;obtain⟨b0,b1,c0,c1,c2,c3,f0,f1,f2,f3,hlt⟩:=boxes hrb aR;have Cc:=hide (zK.out.fr hfa id);have bg:=hide aR;clear hfa aR)
  |(go_at_call 78;refine(sV n hb.1 hb.2 _ (Yc.out _ bg.out)).mono ?_;rintro e w7 ⟨rfl,hfi⟩;have dZ:=bg.out.trans (gK hfi rb);clear b0 b1 c0 c1 c2 c3 f0 f1 f2 f3 hlt;obtain⟨b0,b1,c0,c1,c2,c3,f0,f1,f2,f3,hlt⟩:=boxes hrb dZ;have Du:=hide (Cc.out.fr hfi id);have dH:=hide dZ;clear hfi dZ)
  |(go_at_call 67;refine(HN.out _).mono ?_;rintro e w8 ⟨rfl,hfn⟩;have oN:=dH.out.trans (gK hfn rb);clear b0 b1 c0 c1 c2 c3 f0 f1 f2 f3 hlt;obtain⟨b0,b1,c0,c1,c2,c3,f0,f1,f2,f3,hlt⟩:=boxes hrb oN;have wE:=hide (Du.out.fr hfn id);have lK:=hide oN;clear hfn oN)
  )
 refine bodyPost_ret (v:=ev ⟨3,0,v,aN⟩) (by simp[results,Tryz.results80,go_sem,c0,c1,c2,c3,bs]) rfl ?_
 exact kI (res:=⟨.mk 3 0 v [],l',z⟩) hrb lK.out wE.out (jD _ _ _ _ _) _ _ _ _
set_option maxHeartbeats 1000000 in
set_option maxRecDepth 20000 in
theorem qY (w0:World) (rb:Nat) (l:Bs) (d:Int) (w:World) (h:Pw w0 rb l 0 w) (hd:d<=10) (wC:(skip l).head?≠some 39) (wD:(skip l).head?≠some 40) {v l':Bs} {z:Int} (hw:word (skip l) 0=⟨v,l',z⟩) (hA:∀n,Lib.atoiAll v≠ .ok n) (hn:isName v=true):
 Calls Tryz.prog 80 #[.pointer (some ⟨rb,0,none⟩),.int .i64 d] w (cO ev bF rb w ⟨.mk 3 0 v [],l',z⟩):=by
 have HD:=hide (dN rb l 0 d _ (h.pr.fr (EY w rb d) (S:=nothing) id));have hrb:=h.pr.lt;have e0:bE d 0=0:=by simp[bE];omega
 rw[e0] at HD;have hl:=h.len;have hsl:=aG l;have hvl:v.length<=1500:=by
  have:v=(word (skip l) 0).v:=by rw[hw]
  rw[this];exact Nat.le_trans (List.takeWhile_sublist _).length_le (Nat.le_trans (aG _) (by omega))
 have n39:¬((bS (skip l)).toNat:Int)=39:=iE (c:=39) (by decide) wC;have n40:¬((bS (skip l)).toNat:Int)=40:=iE (c:=40) (by decide) wD;have q39:(((bS (skip l)).toNat:Int)==39)=false:=by simpa using n39
 have b40:=gF n40;have HW:=hide hw;have HH:=hide h;have HN:=hide (fun w=>jL v w hvl);have ER:Hid (∀w',Fr (at_ rb) (lI w rb d) w'->Er w'):=fun w' hf=>HH.out.er.fr (Fr.of_below (HH.out.vE.trans (((EY w rb d).trans hf).below HH.out.vE.size (fun k hk e=>by have:=HH.out.ge;have:k=rb:=e;omega))) (Nat.le_refl _) nothing) id id
 rw[hn] at HN;clear h e0 hw wC wD
 go_enter Tryz.func80,Tryz.ntmps80
 go_wp2_with (first
  |(go_at_call 79;refine HD.out.mono ?_;rintro e w2 ⟨rfl,hp,hf⟩;have hpk:=eP rb l 0 w2 hp hl;have oO:=hide hpk;obtain⟨b0,b1,-,-,-,-,-,-,-,-,hlt⟩:=boxes hrb hf;have HF:=hide hf;clear hp hf hpk)
  |(go_at_call 53;refine oO.out.mono ?_;rintro e w4 ⟨rfl,hp,hf⟩;have gm:=HF.out.trans hf;clear b0 b1 hlt;obtain⟨b0,b1,-,-,-,-,-,-,-,-,hlt⟩:=boxes hrb gm;have hwd:=eU rb (skip l) 0 w4 hp (by omega);rw[HW.out] at hwd;have qO:=hide hwd;have gX:=hide gm;clear hp hf gm hwd)
  |(go_at_call 66;refine qO.out.mono ?_;rintro e w5 ⟨rfl,hp,hf⟩;have cK:=gX.out.trans hf;clear b0 b1 hlt;obtain⟨b0,b1,c0,c1,c2,c3,f0,f1,f2,f3,hlt⟩:=boxes hrb cK;have zK:=hide hp;have aX:=hide cK;clear hp hf cK)
  |(go_at_call 83;refine(zJ v _ (ER.out _ aX.out) hvl hA).mono ?_;rintro e w6 ⟨n,N,rfl,hfa⟩;have aR:=aX.out.trans (gK hfa rb);clear b0 b1 c0 c1 c2 c3 f0 f1 f2 f3 hlt;obtain⟨b0,b1,c0,c1,c2,c3,f0,f1,f2,f3,hlt⟩:=boxes hrb aR;have Cc:=hide (zK.out.fr hfa id);have bg:=hide aR;clear hfa aR)
  |(go_at_call 67;refine(HN.out _).mono ?_;rintro e w8 ⟨rfl,hfn⟩;have oN:=bg.out.trans (gK hfn rb);clear b0 b1 c0 c1 c2 c3 f0 f1 f2 f3 hlt;obtain⟨b0,b1,c0,c1,c2,c3,f0,f1,f2,f3,hlt⟩:=boxes hrb oN;have wE:=hide (Cc.out.fr hfn id);have lK:=hide oN;clear hfn oN)
  )
 refine bodyPost_ret (v:=ev ⟨3,0,v,aN⟩) (by simp[results,Tryz.results80,go_sem,c0,c1,c2,c3,bs]) rfl ?_
 exact kI (res:=⟨.mk 3 0 v [],l',z⟩) hrb lK.out wE.out (jD _ _ _ _ _) _ _ _ _
set_option maxHeartbeats 1000000 in
set_option maxRecDepth 20000 in
theorem uL (w0:World) (rb:Nat) (l:Bs) (d:Int) (w:World) (h:Pw w0 rb l 0 w) (hd:d<=10) (wC:(skip l).head?≠some 39) (wD:(skip l).head?≠some 40) {v l':Bs} {z:Int} (hw:word (skip l) 0=⟨v,l',z⟩) {n:Int} (hA:Lib.atoiAll v=.ok n) (hI:¬Lib.itoa n=v) (hn:isName v=false):
 Calls Tryz.prog 80 #[.pointer (some ⟨rb,0,none⟩),.int .i64 d] w (cO ev bF rb w ⟨.mk 3 0 v [],l',bad z 7⟩):=by
 have HD:=hide (dN rb l 0 d _ (h.pr.fr (EY w rb d) (S:=nothing) id));have hrb:=h.pr.lt;have e0:bE d 0=0:=by simp[bE];omega
 rw[e0] at HD;have hl:=h.len;have hsl:=aG l;have hvl:v.length<=1500:=by
  have:v=(word (skip l) 0).v:=by rw[hw]
  rw[this];exact Nat.le_trans (List.takeWhile_sublist _).length_le (Nat.le_trans (aG _) (by omega))
 have n39:¬((bS (skip l)).toNat:Int)=39:=iE (c:=39) (by decide) wC;have n40:¬((bS (skip l)).toNat:Int)=40:=iE (c:=40) (by decide) wD;have q39:(((bS (skip l)).toNat:Int)==39)=false:=by simpa using n39
 have b40:=gF n40;have HW:=hide hw;have HH:=hide h;have HN:=hide (fun w=>jL v w hvl);have Yc:Hid (∀w',Fr (at_ rb) (lI w rb d) w'->rC w'):=fun w' hf=>Lib.tabBelow_of_tabIs HH.out.tab w' (HH.out.vE.trans (((EY w rb d).trans hf).below HH.out.vE.size (fun k hk e=>by have:=HH.out.ge;have:k=rb:=e;omega)))
 have hb:=Lib.atoiAll_bounds hA;have q1:=uW hI;rw[hn] at HN;clear hI;clear h e0 hw wC wD
 go_enter Tryz.func80,Tryz.ntmps80
 go_wp2_with (first
  |(go_at_call 79;refine HD.out.mono ?_;rintro e w2 ⟨rfl,hp,hf⟩;have hpk:=eP rb l 0 w2 hp hl;have oO:=hide hpk;obtain⟨b0,b1,-,-,-,-,-,-,-,-,hlt⟩:=boxes hrb hf;have HF:=hide hf;clear hp hf hpk)
  |(go_at_call 53;refine oO.out.mono ?_;rintro e w4 ⟨rfl,hp,hf⟩;have gm:=HF.out.trans hf;clear b0 b1 hlt;obtain⟨b0,b1,-,-,-,-,-,-,-,-,hlt⟩:=boxes hrb gm;have hwd:=eU rb (skip l) 0 w4 hp (by omega);rw[HW.out] at hwd;have qO:=hide hwd;have gX:=hide gm;clear hp hf gm hwd)
  |(go_at_call 66;refine qO.out.mono ?_;rintro e w5 ⟨rfl,hp,hf⟩;have cK:=gX.out.trans hf;clear b0 b1 hlt;obtain⟨b0,b1,c0,c1,c2,c3,f0,f1,f2,f3,hlt⟩:=boxes hrb cK;have zK:=hide hp;have aX:=hide cK;clear hp hf cK)
  |(go_at_call 83;refine(wh v n hA _ hvl).mono ?_;rintro e w6 ⟨rfl,hfa⟩;have aR:=aX.out.trans (gK hfa rb);clear b0 b1 c0 c1 c2 c3 f0 f1 f2 f3 hlt;obtain⟨b0,b1,c0,c1,c2,c3,f0,f1,f2,f3,hlt⟩:=boxes hrb aR;have Cc:=hide (zK.out.fr hfa id);have bg:=hide aR;clear hfa aR)
  |(go_at_call 78;refine(sV n hb.1 hb.2 _ (Yc.out _ bg.out)).mono ?_;rintro e w7 ⟨rfl,hfi⟩;have dZ:=bg.out.trans (gK hfi rb);clear b0 b1 c0 c1 c2 c3 f0 f1 f2 f3 hlt;obtain⟨b0,b1,c0,c1,c2,c3,f0,f1,f2,f3,hlt⟩:=boxes hrb dZ;have Du:=hide (Cc.out.fr hfi id);have dH:=hide dZ;clear hfi dZ)
  |(go_at_call 67;refine(HN.out _).mono ?_;rintro e w8 ⟨rfl,hfn⟩;have oN:=dH.out.trans (gK hfn rb);clear b0 b1 c0 c1 c2 c3 f0 f1 f2 f3 hlt;obtain⟨b0,b1,c0,c1,c2,c3,f0,f1,f2,f3,hlt⟩:=boxes hrb oN;have wE:=hide (Du.out.fr hfn id);have lK:=hide oN;clear hfn oN)
  |(go_at_call 65;refine(eT rb l' z 7 _ wE.out).mono ?_;rintro e w9 ⟨rfl,hp,hf⟩;have iI:=lK.out.trans hf;clear b0 b1 c0 c1 c2 c3 f0 f1 f2 f3 hlt;obtain⟨b0,b1,c0,c1,c2,c3,f0,f1,f2,f3,hlt⟩:=boxes hrb iI;have HP9:=hide hp;have nM:=hide iI;clear hp hf iI)
  )
 refine bodyPost_ret (v:=ev ⟨3,0,v,aN⟩) (by simp[results,Tryz.results80,go_sem,c0,c1,c2,c3,bs]) rfl ?_
 exact kI (res:=⟨.mk 3 0 v [],l',bad z 7⟩) hrb nM.out HP9.out (jD _ _ _ _ _) _ _ _ _
set_option maxHeartbeats 1000000 in
set_option maxRecDepth 20000 in
theorem tu (w0:World) (rb:Nat) (l:Bs) (d:Int) (w:World) (h:Pw w0 rb l 0 w) (hd:d<=10) (wC:(skip l).head?≠some 39) (wD:(skip l).head?≠some 40) {v l':Bs} {z:Int} (hw:word (skip l) 0=⟨v,l',z⟩) (hA:∀n,Lib.atoiAll v≠ .ok n) (hn:isName v=false):
 Calls Tryz.prog 80 #[.pointer (some ⟨rb,0,none⟩),.int .i64 d] w (cO ev bF rb w ⟨.mk 3 0 v [],l',bad z 7⟩):=by
 have HD:=hide (dN rb l 0 d _ (h.pr.fr (EY w rb d) (S:=nothing) id));have hrb:=h.pr.lt;have e0:bE d 0=0:=by simp[bE];omega
 rw[e0] at HD;have hl:=h.len;have hsl:=aG l;have hvl:v.length<=1500:=by
  have:v=(word (skip l) 0).v:=by rw[hw]
  rw[this];exact Nat.le_trans (List.takeWhile_sublist _).length_le (Nat.le_trans (aG _) (by omega))
 have n39:¬((bS (skip l)).toNat:Int)=39:=iE (c:=39) (by decide) wC;have n40:¬((bS (skip l)).toNat:Int)=40:=iE (c:=40) (by decide) wD;have q39:(((bS (skip l)).toNat:Int)==39)=false:=by simpa using n39
 have b40:=gF n40;have HW:=hide hw;have HH:=hide h;have HN:=hide (fun w=>jL v w hvl);have ER:Hid (∀w',Fr (at_ rb) (lI w rb d) w'->Er w'):=fun w' hf=>HH.out.er.fr (Fr.of_below (HH.out.vE.trans (((EY w rb d).trans hf).below HH.out.vE.size (fun k hk e=>by have:=HH.out.ge;have:k=rb:=e;omega))) (Nat.le_refl _) nothing) id id
 rw[hn] at HN;clear h e0 hw wC wD
 go_enter Tryz.func80,Tryz.ntmps80
 go_wp2_with (first
  |(go_at_call 79;refine HD.out.mono ?_;rintro e w2 ⟨rfl,hp,hf⟩;have hpk:=eP rb l 0 w2 hp hl;have oO:=hide hpk;obtain⟨b0,b1,-,-,-,-,-,-,-,-,hlt⟩:=boxes hrb hf;have HF:=hide hf;clear hp hf hpk)
  |(go_at_call 53;refine oO.out.mono ?_;rintro e w4 ⟨rfl,hp,hf⟩;have gm:=HF.out.trans hf;clear b0 b1 hlt;obtain⟨b0,b1,-,-,-,-,-,-,-,-,hlt⟩:=boxes hrb gm;have hwd:=eU rb (skip l) 0 w4 hp (by omega);rw[HW.out] at hwd;have qO:=hide hwd;have gX:=hide gm;clear hp hf gm hwd)
  |(go_at_call 66;refine qO.out.mono ?_;rintro e w5 ⟨rfl,hp,hf⟩;have cK:=gX.out.trans hf;clear b0 b1 hlt;obtain⟨b0,b1,c0,c1,c2,c3,f0,f1,f2,f3,hlt⟩:=boxes hrb cK;have zK:=hide hp;have aX:=hide cK;clear hp hf cK)
  |(go_at_call 83;refine(zJ v _ (ER.out _ aX.out) hvl hA).mono ?_;rintro e w6 ⟨n,N,rfl,hfa⟩;have aR:=aX.out.trans (gK hfa rb);clear b0 b1 c0 c1 c2 c3 f0 f1 f2 f3 hlt;obtain⟨b0,b1,c0,c1,c2,c3,f0,f1,f2,f3,hlt⟩:=boxes hrb aR;have Cc:=hide (zK.out.fr hfa id);have bg:=hide aR;clear hfa aR)
  |(go_at_call 67;refine(HN.out _).mono ?_;rintro e w8 ⟨rfl,hfn⟩;have oN:=bg.out.trans (gK hfn rb);clear b0 b1 c0 c1 c2 c3 f0 f1 f2 f3 hlt;obtain⟨b0,b1,c0,c1,c2,c3,f0,f1,f2,f3,hlt⟩:=boxes hrb oN;have wE:=hide (Cc.out.fr hfn id);have lK:=hide oN;clear hfn oN)
  |(go_at_call 65;refine(eT rb l' z 7 _ wE.out).mono ?_;rintro e w9 ⟨rfl,hp,hf⟩;have iI:=lK.out.trans hf;clear b0 b1 c0 c1 c2 c3 f0 f1 f2 f3 hlt;obtain⟨b0,b1,c0,c1,c2,c3,f0,f1,f2,f3,hlt⟩:=boxes hrb iI;have HP9:=hide hp;have nM:=hide iI;clear hp hf iI)
  )
 refine bodyPost_ret (v:=ev ⟨3,0,v,aN⟩) (by simp[results,Tryz.results80,go_sem,c0,c1,c2,c3,bs]) rfl ?_
 exact kI (res:=⟨.mk 3 0 v [],l',bad z 7⟩) hrb nM.out HP9.out (jD _ _ _ _ _) _ _ _ _
end
section
structure B5 (b:Nat) (v0 v1 v2 v3 v4:Value) (w:World):Prop where
 c0:w.cell? ⟨b,0,none⟩=some v0
 c1:w.cell? ⟨b,1,none⟩=some v1
 c2:w.cell? ⟨b,2,none⟩=some v2
 c3:w.cell? ⟨b,3,none⟩=some v3
 c4:w.cell? ⟨b,4,none⟩=some v4
 f:∀j,w.frozen? ⟨b,j,none⟩=false
 lt:b<w.heap.size
theorem B5.fr {b:Nat} {v0 v1 v2 v3 v4:Value} {w w':World} {S:Nat->Prop} (h:B5 b v0 v1 v2 v3 v4 w) (hf:Fr S w w') (hs:¬S b):B5 b v0 v1 v2 v3 v4 w':=
 ⟨(hf.cell (p:=⟨b,0,none⟩) h.lt hs).trans h.c0,(hf.cell (p:=⟨b,1,none⟩) h.lt hs).trans h.c1,(hf.cell (p:=⟨b,2,none⟩) h.lt hs).trans h.c2,(hf.cell (p:=⟨b,3,none⟩) h.lt hs).trans h.c3,(hf.cell (p:=⟨b,4,none⟩) h.lt hs).trans h.c4,fun j=>(hf.frozen (p:=⟨b,j,none⟩) h.lt hs).trans (h.f j),Nat.lt_of_lt_of_le h.lt hf.size⟩
theorem B5.made (w:World) (v0 v1 v2 v3 v4:Value) (t:TypeId):B5 w.heap.size v0 v1 v2 v3 v4 (w.alloc (.cells #[v0,v1,v2,v3,v4] t)):=by
 have hn:=af (Fr.refl nothing (w.alloc (.cells #[v0,v1,v2,v3,v4] t))) id;exact⟨hn.1 0,hn.1 1,hn.1 2,hn.1 3,hn.1 4,hn.2.1,hn.2.2⟩
theorem B5.set1 {b:Nat} {v0 v1 v2 v3 v4:Value} {w:World} (h:B5 b v0 v1 v2 v3 v4 w) (u:Value):B5 b v0 u v2 v3 v4 (w.setCell ⟨b,1,none⟩ u):=
 ⟨(World.cell?_setCell_other w ⟨b,1,none⟩ ⟨b,0,none⟩ _ (by simp)).trans h.c0,World.cell?_setCell_same _ _ _ h.c1,(World.cell?_setCell_other w ⟨b,1,none⟩ ⟨b,2,none⟩ _ (by simp)).trans h.c2,(World.cell?_setCell_other w ⟨b,1,none⟩ ⟨b,3,none⟩ _ (by simp)).trans h.c3,(World.cell?_setCell_other w ⟨b,1,none⟩ ⟨b,4,none⟩ _ (by simp)).trans h.c4,fun j=>by rw[World.frozen?_setCell];exact h.f j,by have:=h.lt;simpa[World.setCell] using this⟩
theorem B5.QH {b:Nat} {v0 v1 v2 v3 v4:Value} {w:World} (h:B5 b v0 v1 v2 v3 v4 w) (u:Value):B5 b v0 v1 v2 u v4 (w.setCell ⟨b,3,none⟩ u):=
 ⟨(World.cell?_setCell_other w ⟨b,3,none⟩ ⟨b,0,none⟩ _ (by simp)).trans h.c0,(World.cell?_setCell_other w ⟨b,3,none⟩ ⟨b,1,none⟩ _ (by simp)).trans h.c1,(World.cell?_setCell_other w ⟨b,3,none⟩ ⟨b,2,none⟩ _ (by simp)).trans h.c2,World.cell?_setCell_same _ _ _ h.c3,(World.cell?_setCell_other w ⟨b,3,none⟩ ⟨b,4,none⟩ _ (by simp)).trans h.c4,fun j=>by rw[World.frozen?_setCell];exact h.f j,by have:=h.lt;simpa[World.setCell] using this⟩
theorem B5.acs {b:Nat} {v0 v1 v2 v3 v4:Value} {w:World} (h:B5 b v0 v1 v2 v3 v4 w) (u:Value):B5 b v0 v1 v2 v3 u (w.setCell ⟨b,4,none⟩ u):=
 ⟨(World.cell?_setCell_other w ⟨b,4,none⟩ ⟨b,0,none⟩ _ (by simp)).trans h.c0,(World.cell?_setCell_other w ⟨b,4,none⟩ ⟨b,1,none⟩ _ (by simp)).trans h.c1,(World.cell?_setCell_other w ⟨b,4,none⟩ ⟨b,2,none⟩ _ (by simp)).trans h.c2,(World.cell?_setCell_other w ⟨b,4,none⟩ ⟨b,3,none⟩ _ (by simp)).trans h.c3,World.cell?_setCell_same _ _ _ h.c4,fun j=>by rw[World.frozen?_setCell];exact h.f j,by have:=h.lt;simpa[World.setCell] using this⟩
def nI {ρ α:Type} (enc:ρ->List Value) (sz:Nat) (ok:World->(Nat->Prop)->ρ->α->Prop) (B:Nat) (w:World) (s:ai) (xs:List α):Prop:=
 ∃rs:List ρ,Sl enc sz w s.v rs/\(∀b,s.v.ownBlock=some b->B<=b/\b<w.heap.size)/\Each (ok w (fun k=>B<=k/\k<w.heap.size)) rs xs
theorem nI.nil {ρ α:Type} {enc:ρ->List Value} {sz:Nat} {ok:World->(Nat->Prop)->ρ->α->Prop} {B:Nat} {w:World}:nI enc sz ok B w aN ([]:List α):=
 ⟨[],⟨none,0,rfl,by unfold maxLen;simp,fun i x h=>by simp at h⟩,fun b h=>(by cases h),rfl,fun i r x h=>(by simp at h)⟩
theorem nI.fr {ρ α:Type} {enc:ρ->List Value} {sz:Nat} {ok:World->(Nat->Prop)->ρ->α->Prop} (hst:kV ok) {B:Nat} {w w':World} {s:ai} {xs:List α} {S:Nat->Prop} (h:nI enc sz ok B w s xs) (hf:Fr S w w') (hs:∀k,S k->k<B):nI enc sz ok B w' s xs:=by
 obtain⟨rs,h1,h2,h3⟩:=h;refine⟨rs,h1.keep hf h2 (fun k hk e=>by have:=hs k e;omega),fun b hb=>?_,h3.1,fun i r x a b=>hst w w' S _ _ r x (h3.2 i r x a b) hf (fun k hk e=>by have:=hs k e;omega) (fun k hk=>⟨hk.1,Nat.lt_of_lt_of_le hk.2 hf.size⟩)⟩
 have:=h2 b hb;have:=hf.size;omega
theorem nI.since {ρ α:Type} {enc:ρ->List Value} {sz:Nat} {ok:World->(Nat->Prop)->ρ->α->Prop} (hst:kV ok) {B B':Nat} {w:World} {s:ai} {xs:List α} (h:nI enc sz ok B w s xs) (hB:B'<=B):nI enc sz ok B' w s xs:=by
 obtain⟨rs,h1,h2,h3⟩:=h;exact⟨rs,h1,fun b hb=>by have:=h2 b hb;omega,h3.1,fun i r x a b=>hst w w nothing _ _ r x (h3.2 i r x a b) (Fr.refl _ _) (fun _ _=>id) (fun k hk=>⟨by omega,hk.2⟩)⟩
theorem qZ {rb B:Nat} {w w':World} {res:Rd St} {c:Int} {nm:Bs} {sa sx sy:ai} {la:List Ex} {lx ly:List St} (hrb:rb<w.heap.size) (hf:Fr (at_ rb) w w') (hp:Pr rb res.l res.z w') (hv:res.v=.mk c nm la lx ly) (hB:w.heap.size<B)
 (ha:nI fQ 4 bF B w' sa la) (hx:nI encS 5 gy B w' sx lx) (hy:nI encS 5 gy B w' sy ly) (u0 u1 u2 u3 u4:Value):
 cO sv gy rb w res (.returned (sv ⟨c,nm,sa,sx,sy⟩)) (((((w'.setCell ⟨w.heap.size,0,none⟩ u0).setCell ⟨w.heap.size,1,none⟩ u1).setCell ⟨w.heap.size,2,none⟩ u2).setCell ⟨w.heap.size,3,none⟩ u3).setCell ⟨w.heap.size,4,none⟩ u4):=by
 have iI:Fr (fun k=>k=w.heap.size) w' (((((w'.setCell ⟨w.heap.size,0,none⟩ u0).setCell ⟨w.heap.size,1,none⟩ u1).setCell ⟨w.heap.size,2,none⟩ u2).setCell ⟨w.heap.size,3,none⟩ u3).setCell ⟨w.heap.size,4,none⟩ u4):=Fr.dP (us:=[u0,u1,u2,u3,u4]) (o:=0) (g:=w.heap.size) (Fr.refl _ w') (.inl rfl);have ha9:=ha.fr av iI (fun k e=>by omega);have hx9:=hx.fr aT iI (fun k e=>by omega);have hy9:=hy.fr aT iI (fun k e=>by omega);obtain⟨ra,a1,a2,a3⟩:=ha9.since av (Nat.le_of_lt hB);obtain⟨rx,x1,x2,x3⟩:=hx9.since aT (Nat.le_of_lt hB);obtain⟨ry,y1,y2,y3⟩:=hy9.since aT (Nat.le_of_lt hB);refine⟨⟨c,nm,sa,sx,sy⟩,rfl,hf.then iI (fun j hj e=>by omega),hp.fr iI (by omega),?_⟩
 rw[hv];exact .mk _ _ _ _ _ ra rx ry la lx ly a1 a2 a3 x1 x2 x3.1 x3.2 y1 y2 y3.1 y3.2
theorem jB {α:Type} (one:Reader α) {n j:Nat} (h:j<n) (l:Bs) (z:Int):times one (n-j) l z=(times one (n-(j+1)) (one l z).l (one l z).z).after [(one l z).v]:=by
 obtain⟨m,hm⟩:∃m,n-j=m+1:=⟨n-j-1,by omega⟩
 rw[hm,show n-(j+1)=m by omega];rfl
theorem bO:∀c,c<10->(#[Value.int .i64 0,.int .i64 1,.int .i64 1,.int .i64 1,.int .i64 1,.int .i64 1,.int .i64 1,.int .i64 2,.int .i64 2,.int .i64 1]:Array Value)[c]?=some (.int .i64 (aA c))
 |0,_=>rfl
 |1,_=>rfl
 |2,_=>rfl
 |3,_=>rfl
 |4,_=>rfl
 |5,_=>rfl
 |6,_=>rfl
 |7,_=>rfl
 |8,_=>rfl
 |9,_=>rfl
 |n+10,h=>by omega
theorem j4 (c:Nat):aA c<=2:=by unfold aA;split;omega;split<;>omega
end
end Go.Proofs.YtbcadjgpcfmkfaaGreatDoor
