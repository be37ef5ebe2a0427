/- Low; Names; Word; Until. -/
import Derived.Test.YtbcadjgpcfmkfaaGreatDoorPartU2
import Derived.Test.YtbcadjgpcfmkfaaGreatDoorPartU1
set_option maxHeartbeats 0
set_option maxRecDepth 100000
set_option linter.unusedSimpArgs false
namespace Go.Proofs.YtbcadjgpcfmkfaaGreatDoor
open Go Go.RowKit
section
structure Pr (rb:Nat) (l:Bs) (z:Int) (w:World):Prop where
 s:w.cell? ⟨rb,0,none⟩=some (.string (bs l))
 e:w.cell? ⟨rb,1,none⟩=some (.int .i64 z)
 f0:w.frozen? ⟨rb,0,none⟩=false
 f1:w.frozen? ⟨rb,1,none⟩=false
 lt:rb<w.heap.size
theorem Pr.fr {rb:Nat} {l:Bs} {z:Int} {w w':World} {S:Nat->Prop} (h:Pr rb l z w) (hf:Fr S w w') (hs:¬S rb):Pr rb l z w':=
 ⟨(hf.cell (p:=⟨rb,0,none⟩) h.lt hs).trans h.s,(hf.cell (p:=⟨rb,1,none⟩) h.lt hs).trans h.e,(hf.frozen (p:=⟨rb,0,none⟩) h.lt hs).trans h.f0,(hf.frozen (p:=⟨rb,1,none⟩) h.lt hs).trans h.f1,Nat.lt_of_lt_of_le h.lt hf.size⟩
theorem Pr.drew {rb:Nat} {l:Bs} {z:Int} {w:World} (h:Pr rb l z w):Pr rb l z w.drew:=⟨h.s,h.e,h.f0,h.f1,h.lt⟩
theorem Pr.put {rb:Nat} {l:Bs} {z:Int} {w:World} (h:Pr rb l z w) (l':Bs):Pr rb l' z (w.setCell ⟨rb,0,none⟩ (.string (bs l'))) where
 s:=World.cell?_setCell_same _ _ _ h.s
 e:=(World.cell?_setCell_other w ⟨rb,0,none⟩ ⟨rb,1,none⟩ _ (by simp)).trans h.e
 f0:=by rw[World.frozen?_setCell];exact h.f0
 f1:=by rw[World.frozen?_setCell];exact h.f1
 lt:=by have:=h.lt;simpa[World.setCell] using this
theorem Pr.put' {rb:Nat} {l l':Bs} {z:Int} {w:World} {S:ByteArray} (h:Pr rb l z w) (hS:S=bs l'):Pr rb l' z (w.setCell ⟨rb,0,none⟩ (.string S)):=hS▸h.put l'
theorem Pr.err {rb:Nat} {l:Bs} {z:Int} {w:World} (h:Pr rb l z w) (z':Int):Pr rb l z' (w.setCell ⟨rb,1,none⟩ (.int .i64 z')) where
 s:=(World.cell?_setCell_other w ⟨rb,1,none⟩ ⟨rb,0,none⟩ _ (by simp)).trans h.s
 e:=World.cell?_setCell_same _ _ _ h.e
 f0:=by rw[World.frozen?_setCell];exact h.f0
 f1:=by rw[World.frozen?_setCell];exact h.f1
 lt:=by have:=h.lt;simpa[World.setCell] using this
abbrev at_ (rb:Nat):Nat->Prop:=fun k=>k=rb
def lenOf (w:World) (rb:Nat):Nat:=
 match w.cell? ⟨rb,0,none⟩ with
 |some (.string s)=>s.size
 |_=>0
theorem Pr.lenOf {rb:Nat} {l:Bs} {z:Int} {w:World} (h:Pr rb l z w):lenOf w rb=l.length:=by
 simp[Go.Proofs.YtbcadjgpcfmkfaaGreatDoor.lenOf,h.s,dz]
theorem nk (T:ByteArray) (a b:Nat):T.extract a b=bs ((T.data.toList.drop a).take (b-a)):=by
 apply ByteArray.ext
 apply Array.toList_inj.1
 simp[bs,ByteArray.data_extract,List.extract_eq_take_drop]
theorem sN (c:UInt8) (t:Bs) {b:Nat} (hb:t.length+1<=b):(bs (c::t)).extract 1 b=bs t:=by
 rw[nk,vQ]
 congr 1
 simp only[List.drop_succ_cons,List.drop_zero];exact List.take_of_length_le (by omega)
theorem EU (c d:UInt8) (n:Int) (h:(d.toNat:Int)=n):((c.toNat:Int)==n)=(c==d):=by
 rw[Bool.eq_iff_iff];simp only[beq_iff_eq];constructor
 ·intro h2;exact UInt8.toNat_inj.1 (by omega)
 ·rintro rfl;exact h
theorem is32 (c:UInt8):((c.toNat:Int)==32)=(c==32):=EU c 32 32 rfl
theorem acn (c:UInt8):((c.toNat:Int)==10)=(c==10):=EU c 10 10 rfl
theorem is0 (c:UInt8):((c.toNat:Int)==0)=(c==0):=EU c 0 0 rfl
theorem MN {c:UInt8} {t:Bs} (h:blank c=true):skip (c::t)=skip t:=by simp[skip,h]
theorem BU {c:UInt8} {t:Bs} (h:blank c=false):skip (c::t)=c::t:=by simp[skip,h]
theorem BV {rb:Nat} {l:Bs} {z:Int} {w wr:World} {c:UInt8} {t:Bs} {S:ByteArray} (hR:skip (c::t)=skip l/\Pr rb (c::t) z wr/\Fr (at_ rb) w wr) (hS:S=bs t) (hb:blank c=true) (hl:(c::t).length<=1500):
 (∃m,m.length<=1500/\Hid (skip m=skip l/\Pr rb m z (wr.setCell ⟨rb,0,none⟩ (.string S))/\Fr (at_ rb) w (wr.setCell ⟨rb,0,none⟩ (.string S))))/\lenOf (wr.setCell ⟨rb,0,none⟩ (.string S)) rb<lenOf wr rb:=by
 have h1:=hR.2.1.put' hS;refine⟨⟨t,by simp at hl;omega,(MN hb).symm.trans hR.1,h1,hR.2.2.setCell (p:=⟨rb,0,none⟩) (.inl rfl) _⟩,?_⟩
 rw[h1.lenOf,hR.2.1.lenOf];simp
set_option maxHeartbeats 400000 in
theorem eP (rb:Nat) (l:Bs) (z:Int) (w:World) (h:Pr rb l z w) (hl:l.length<=1500):
 Calls Tryz.prog 53 #[.pointer (some ⟨rb,0,none⟩)] w fun e w'=>e=.returned (.int .u8 (bS (skip l)).toNat)/\Pr rb (skip l) z w'/\Fr (at_ rb) w w':=by
 go_enter Tryz.func53,Tryz.ntmps53
 go_wp2
 go_loopw [] (fun wr=>∃m:Bs,m.length<=1500/\Hid (skip m=skip l/\Pr rb m z wr/\Fr (at_ rb) w wr)) (fun wr=>lenOf wr rb)
 case atStart=>exact⟨l,hl,rfl,h,Fr.refl _ _⟩
 case round=>
  obtain⟨m,hm,hR⟩:=hrel;have c0:=hR.out.2.1.s;have fz:=hR.out.2.1.f0;have hlt:=hR.out.2.1.lt;clear h;have hsz:=dz m;cases m with
  |nil=>
   have hz:¬(0:Int)<((bs []).size:Int):=by simp[dz]
   go_wp2
   go_ret
   have h1:=hR.out.1;refine⟨?_,?_,hR.out.2.2⟩
   ·rw[<-h1];rfl
   ·rw[<-h1];exact hR.out.2.1
  |cons c t=>
   have hz':0<(bs (c::t)).size:=by rw[hsz];simp
   have hz:(0:Int)<((bs (c::t)).size:Int):=by omega
   have hc:(bs (c::t))[0]'hz'=c:=rfl;have hz1:(1:Int)<=((bs (c::t)).size:Int):=by omega
   have hne:¬((bs (c::t)).size:Int)=0:=by omega
   have h32:=is32 c;have h10:=acn c;have h0:=is0 c
   by_cases hb:c==32
   ·rw[hb] at h32;have hbl:=hide (show blank c=true by simp[blank,hb])
    go_wp2
    exact BV hR.out (sN c t (Nat.le_refl _)) hbl.out hm
   ·have hb0:(c==32)=false:=by simpa using hb
    rw[hb0] at h32
    by_cases hb2:c==10
    ·rw[hb2] at h10;have hbl:=hide (show blank c=true by simp[blank,hb2])
     go_wp2
     exact BV hR.out (sN c t (Nat.le_refl _)) hbl.out hm
    ·have hb3:(c==10)=false:=by simpa using hb2
     rw[hb3] at h10;have hbl:=hide (show blank c=false by simp[blank,hb0,hb3])
     by_cases hb4:c==0
     ·rw[hb4] at h0
      go_wp2
      go_ret
      have h1:=(BU (t:=t) hbl.out).symm.trans hR.out.1;refine⟨?_,?_,hR.out.2.2⟩
      ·rw[<-h1];have:c=0:=by simpa using hb4
       simp[bS,this]
      ·rw[<-h1];exact hR.out.2.1
     ·have hb5:(c==0)=false:=by simpa using hb4
      rw[hb5] at h0
      go_wp2
      go_ret
      have h1:=(BU (t:=t) hbl.out).symm.trans hR.out.1;refine⟨?_,?_,hR.out.2.2⟩
      ·rw[<-h1];have:¬c=0:=by simpa using hb4
       simp[bS,this]
      ·rw[<-h1];exact hR.out.2.1
set_option maxHeartbeats 400000 in
theorem eT (rb:Nat) (l:Bs) (z e:Int) (w:World) (h:Pr rb l z w):
 Calls Tryz.prog 65 #[.pointer (some ⟨rb,0,none⟩),.int .i64 e] w fun r w'=>r=.returned (.tuple #[])/\Pr rb l (bad z e) w'/\Fr (at_ rb) w w':=by
 have c1:=h.e;have f1:=h.f1;have hlt:=h.lt;have H:=hide h;clear h
 by_cases hz:z=0
 ·have hb:Hid (bad z e=e):=by rw[hz];rfl
  go_enter Tryz.func65,Tryz.ntmps65
  go_wp2
  go_end0
  refine⟨rfl,?_,(Fr.refl (at_ rb) w).setCell (p:=⟨rb,1,none⟩) (.inl rfl) _⟩
  rw[hb.out];exact H.out.err e
 ·have hb:Hid (bad z e=z):=lD hz
  go_enter Tryz.func65,Tryz.ntmps65
  go_wp2
  go_end0
  refine⟨rfl,?_,Fr.refl _ _⟩
  rw[hb.out];exact H.out
theorem EX {d:UInt8} {t:Bs}:bS (d::t)≠0:=by
 unfold bS;dsimp only;split
 ·decide
 ·assumption
theorem sO {c d:UInt8} {t:Bs} (hc:c≠0/\c≠1):(bS (d::t)=c)=(d=c):=by
 unfold bS;dsimp only;split
 ·rename_i h;subst h
  exact propext ⟨fun h=>absurd h.symm hc.2,fun h=>absurd h.symm hc.1⟩
 ·rfl
theorem QC {c d:UInt8} (h:c≠d):((c.toNat:Int)==(d.toNat:Int))=false:=by rw[EU c d _ rfl];simpa using h
set_option maxHeartbeats 400000 in
theorem bR (rb:Nat) (l:Bs) (z:Int) (c:UInt8) (w:World) (h:Pr rb l z w) (hl:l.length<=1500) (hc:c≠0/\c≠1):
 Calls Tryz.prog 54 #[.pointer (some ⟨rb,0,none⟩),.int .u8 c.toNat] w fun r w'=>r=.returned (.tuple #[])/\Pr rb (must c l z).l (must c l z).z w'/\Fr (at_ rb) w w':=by
 have HP:=hide (eP rb l z w h hl);have hsl:=aG l;cases hs:skip l with
 |nil=>
  have e1:must c l z=⟨(),[],bad z 8⟩:=by unfold must;rw[hs]
  rw[e1];rw[hs,show((bS []).toNat:Int)=0 from rfl] at HP;have hne:((0:Int)==(c.toNat:Int))=false:=QC (c:=0) (fun e=>hc.1 e.symm);clear h hs e1
  go_enter Tryz.func54,Tryz.ntmps54
  go_wp2_with (first
   |(go_at_call 53;refine HP.out.mono ?_;rintro e w1 ⟨rfl,hp,hf⟩;have HB:=hide (eT rb [] z 8 w1 hp);have HF:=hide hf;clear hp hf)
   |(go_at_call 65;refine HB.out.mono ?_;rintro e w2 ⟨rfl,hp,hf⟩;have rD:=hide hp;have bq:=hide hf;clear hp hf))
  all_goals go_end0
  all_goals exact⟨rfl,rD.out,HF.out.trans bq.out⟩
 |cons d t=>
  rw[hs] at HP hsl;simp at hsl
  by_cases hd:d=c
  ·have e1:must c l z=⟨(),t,z⟩:=by unfold must;rw[hs];simp[hd]
   rw[e1];subst hd;have e2:bS (d::t)=d:=by rw[sO hc]
   rw[e2] at HP;have hsz:=dz (d::t);have hz1:(1:Int)<=((bs (d::t)).size:Int):=by rw[hsz];simp;omega
   clear h hs e1 e2
   go_enter Tryz.func54,Tryz.ntmps54
   go_wp2_with (first
    |(go_at_call 53;refine HP.out.mono ?_;rintro e w1 ⟨rfl,hp,hf⟩;have c0:=hp.s;have f0:=hp.f0;have hlt:=hp.lt;have rD:=hide hp;have HF:=hide hf;clear hp hf))
   all_goals go_end0
   exact⟨rfl,rD.out.put' (sN d t (Nat.le_refl _)),HF.out.setCell (p:=⟨rb,0,none⟩) (.inl rfl) _⟩
  ·have e1:must c l z=⟨(),d::t,bad z 2⟩:=by unfold must;rw[hs];simp[hd]
   rw[e1];have e2:bS (d::t)≠c:=fun e=>hd ((sO hc)▸e);have e3:bS (d::t)≠0:=EX;generalize bS (d::t)=x at*;have hne:=QC e2;have hne2:((x.toNat:Int)==0)=false:=QC e3;clear h hs e1 e2 e3 hd
   go_enter Tryz.func54,Tryz.ntmps54
   go_wp2_with (first
    |(go_at_call 53;refine HP.out.mono ?_;rintro e w1 ⟨rfl,hp,hf⟩;have HB:=hide (eT rb _ z 2 w1 hp);have HF:=hide hf;clear hp hf)
    |(go_at_call 65;refine HB.out.mono ?_;rintro e w2 ⟨rfl,hp,hf⟩;have rD:=hide hp;have bq:=hide hf;clear hp hf))
   all_goals go_end0
   all_goals exact⟨rfl,rD.out,HF.out.trans bq.out⟩
end
section
def JO:Array Value:=#[.string ⟨#[108,101,116]⟩,.string ⟨#[115,101,116]⟩,.string ⟨#[105,102]⟩,.string ⟨#[119,104,105,108,101]⟩,.string ⟨#[115,97,121]⟩,.string ⟨#[114,101,116,117,114,110]⟩,.string ⟨#[112,117,116,108]⟩,.string ⟨#[112,117,116,114]⟩,.string ⟨#[100,111]⟩,.string ⟨#[99,101,108,108]⟩,.string ⟨#[108,101,102,116]⟩,.string ⟨#[114,105,103,104,116]⟩,.string ⟨#[97,115,107]⟩,.string ⟨#[104,101,114,101]⟩,.string ⟨#[103,111]⟩]
theorem JP:∀k (h:k<taken.length),JO[k]?=some (.string (bs taken[k])):=by
 intro k h;have h1:taken.length=15:=rfl;rw[h1] at h
 match k,h with
 |0,_=>rfl
 |1,_=>rfl
 |2,_=>rfl
 |3,_=>rfl
 |4,_=>rfl
 |5,_=>rfl
 |6,_=>rfl
 |7,_=>rfl
 |8,_=>rfl
 |9,_=>rfl
 |10,_=>rfl
 |11,_=>rfl
 |12,_=>rfl
 |13,_=>rfl
 |14,_=>rfl
 |n+15,h=>omega
theorem JQ {v:Bs} {k:Nat} (h:k<taken.length) (h1:v∉taken.take k) (h2:¬v=taken[k]):v∉taken.take (k+1):=by
 rw[List.take_succ_eq_append_getElem h,List.mem_append];rintro(h3|h3)
 ·exact h1 h3
 ·exact h2 (by simpa using h3)
set_option maxHeartbeats 1000000 in
set_option maxRecDepth 20000 in
theorem jL (v:Bs) (w:World) (hv:v.length<=1500):
 Calls Tryz.prog 67 #[.string (bs v)] w fun e w'=>e=.returned (.bool (isName v))/\Fr nothing w w':=by
 have hsz:=dz v;have HN:Hid (isName v=(!(taken.contains v)&&v.all letter&&decide (0<v.length)&&decide (v.length<9))):=rfl;generalize isName v=r at HN⊢
 go_enter Tryz.func67,Tryz.ntmps67
 go_wp2
 go_loop [8,4] (fun i _=>∃k:Nat,k<=15/\i=.int .i64 k/\Hid (v∉taken.take k)) (fun i _=>15-(intOf i).toNat)
 case atStart=>exact⟨0,Nat.zero_le _,rfl,by simp[Hid]⟩
 case round=>
  obtain⟨k,hk,rfl,hno⟩:=hrel
  by_cases hlt:k<15
  ·have hkl:k<taken.length:=hlt;have hcell:∀T,(w.alloc (.cells JO T)).cell? ⟨w.heap.size,k,none⟩=some (.string (bs taken[k])):=fun T=>by
    rw[World.cell?_alloc_new];exact JP k hkl
   unfold JO at hcell;have HS:Hid (¬v=taken[k]->v∉taken.take (k+1)):=fun h2=>JQ hkl hno.out h2;have HM:Hid (taken[k]∈taken):=List.getElem_mem hkl;generalize taken[k]=u at hcell HS HM
   by_cases hq:v=u
   ·have hr:r=false:=by
     rw[HN.out];have:v∈taken:=hq▸HM.out;simp[this]
    subst hr;subst hq
    go_wp2
    all_goals go_ret
    all_goals exact⟨rfl,(Fr.refl _ _).alloc _⟩
   ·have hq1:=uW hq
    go_wp2
    go_round
    case rel=>exact⟨k+1,by omega,by go_num,HS.out hq⟩
    case measure=>simp[intOf];omega
  ·have aco:Hid (taken.contains v=false):=by
    have h1:k=15:=by omega
    subst h1;have:=hno.out;rw[List.take_of_length_le (by decide)] at this;have h2:taken.contains v=false:=by simpa using this
    exact h2
   clear hno
   go_wp2
   go_loop [18,5] (fun i _=>∃k:Nat,k<=v.length/\i=.int .i64 k/\Hid ((v.take k).all letter=true)) (fun i _=>v.length-(intOf i).toNat)
   case atStart=>exact⟨0,Nat.zero_le _,rfl,rfl⟩
   case round=>
    obtain⟨j,hj,rfl,hall⟩:=hrel
    by_cases hjl:j<v.length
    ·have hz:(j:Int)<((bs v).size:Int):=by rw[hsz];omega
     have hz':j<(bs v).size:=by rw[hsz];omega
     generalize hc:(bs v)[j]'hz'=c;have Aj:Hid (v[j]=c):=hc
     by_cases h1:c.toNat<97
     ·have hr:r=false:=by rw[HN.out,kT hjl Aj.out (by simp[letter];omega)];simp
      subst hr;have h2:(c.toNat:Int)<97:=by omega
      go_wp2
      all_goals go_ret
      all_goals exact⟨rfl,(Fr.refl _ _).alloc _⟩
     ·have h2:¬(c.toNat:Int)<97:=by omega
      by_cases h3:122<c.toNat
      ·have hr:r=false:=by rw[HN.out,kT hjl Aj.out (by simp[letter];omega)];simp
       subst hr;have h4:(122:Int)<(c.toNat:Int):=by omega
       go_wp2
       all_goals go_ret
       all_goals exact⟨rfl,(Fr.refl _ _).alloc _⟩
      ·have h4:¬(122:Int)<(c.toNat:Int):=by omega
       have HL:=hide (nU hall.out hjl Aj.out (by simp[letter];omega))
       go_wp2
       go_round
       case rel=>exact⟨j+1,by omega,by go_num,HL⟩
       case measure=>simp[intOf];omega
    ·obtain rfl:j=v.length:=by omega
     have hr:r=(decide (0<v.length)&&decide (v.length<9)):=by
      have:=hall.out;rw[List.take_length] at this;rw[HN.out,this,aco.out];simp
     subst hr;clear hall
     by_cases h0:0<v.length
     ·by_cases h9:v.length<9
      ·have g0:(0:Int)<(v.length:Int):=by omega
       have g9:(v.length:Int)<9:=by omega
       go_wp2
       all_goals go_ret
       all_goals exact⟨by simp[*],(Fr.refl _ _).alloc _⟩
      ·have g0:(0:Int)<(v.length:Int):=by omega
       have g9:¬(v.length:Int)<9:=by omega
       go_wp2
       all_goals go_ret
       all_goals exact⟨by simp[*],(Fr.refl _ _).alloc _⟩
     ·have g0:¬(0:Int)<(v.length:Int):=by omega
      go_wp2
      all_goals go_ret
      all_goals exact⟨by simp[*],(Fr.refl _ _).alloc _⟩
set_option maxHeartbeats 400000 in
set_option maxRecDepth 20000 in
theorem JR (v:Bs) (w:World) (hv:v.length<=1500):
 Calls Tryz.prog 61 #[.string (bs v)] w fun e w'=>e=.returned (.bool (isWord v))/\w'=w:=by
 have hsz:=dz v;have HN:Hid (isWord v=(v.all lM&&decide (v.length<13))):=rfl;generalize isWord v=r at HN⊢
 go_enter Tryz.func61,Tryz.ntmps61
 go_wp2
 go_loop [6,3] (fun i _=>∃k:Nat,k<=v.length/\i=.int .i64 k/\Hid ((v.take k).all lM=true)) (fun i _=>v.length-(intOf i).toNat)
 case atStart=>exact⟨0,Nat.zero_le _,rfl,rfl⟩
 case round=>
  obtain⟨k,hk,rfl,hall⟩:=hrel
  by_cases hlt:k<v.length
  ·have hz:(k:Int)<((bs v).size:Int):=by rw[hsz];omega
   have hz':k<(bs v).size:=by rw[hsz];omega
   generalize hc:(bs v)[k]'hz'=c;have Aj:Hid (v[k]=c):=hc
   by_cases h1:c.toNat<32
   ·have hr:r=false:=by rw[HN.out,kT hlt Aj.out (by simp[lM];omega)];simp
    subst hr;have h2:(c.toNat:Int)<32:=by omega
    go_wp2
    all_goals go_ret
    all_goals exact⟨rfl,rfl⟩
   ·have h2:¬(c.toNat:Int)<32:=by omega
    by_cases h3:126<c.toNat
    ·have hr:r=false:=by rw[HN.out,kT hlt Aj.out (by simp[lM];omega)];simp
     subst hr;have h4:(126:Int)<(c.toNat:Int):=by omega
     go_wp2
     all_goals go_ret
     all_goals exact⟨rfl,rfl⟩
    ·have h4:¬(126:Int)<(c.toNat:Int):=by omega
     by_cases h5:c.toNat=39
     ·have hr:r=false:=by rw[HN.out,kT hlt Aj.out (by simp[lM,h5])];simp
      subst hr;have h6:((c.toNat:Int)==39)=true:=by simp;omega
      go_wp2
      all_goals go_ret
      all_goals exact⟨rfl,rfl⟩
     ·have h6:((c.toNat:Int)==39)=false:=by simp;omega
      have HL:=hide (nU hall.out hlt Aj.out (by simp[lM,h5];omega))
      go_wp2
      go_round
      case rel=>exact⟨k+1,by omega,by go_num,HL⟩
      case measure=>simp[intOf];omega
  ·obtain rfl:k=v.length:=by omega
   have hr:r=decide (v.length<13):=by
    have:=hall.out;rw[List.take_length] at this;rw[HN.out,this];simp
   subst hr;clear hall
   by_cases h9:v.length<13
   ·have g9:(v.length:Int)<13:=by omega
    go_wp2
    all_goals go_ret
    all_goals exact⟨by simp[*],rfl⟩
   ·have g9:¬(v.length:Int)<13:=by omega
    go_wp2
    all_goals go_ret
    all_goals exact⟨by simp[*],rfl⟩
end
section
theorem qR {f:UInt8->Bool}:∀{m:Bs} {k:Nat},(m.take k).all f=true->(∀c,m[k]?=some c->f c=false)->m.takeWhile f=m.take k/\m.dropWhile f=m.drop k
 |[],k,_,_=>by simp
 |c::t,0,_,hs=>by
  have:=hs c rfl;simp[this]
 |c::t,k+1,h,hs=>by
  simp only[List.take_succ_cons,List.all_cons,Bool.and_eq_true] at h;have:=qR (f:=f) (m:=t) (k:=k) h.2 (fun c hc=>hs c (by simpa using hc));simp[h.1,this.1,this.2]
theorem vY (m:Bs) (k:Nat):(bs m).extract 0 k=bs (m.take k):=by rw[nk,vQ];simp
theorem sP (m:Bs) {k b:Nat} (hb:m.length<=b):(bs m).extract k b=bs (m.drop k):=by
 rw[nk,vQ]
 congr 1
 exact List.take_of_length_le (by simp;omega)
theorem Uc (z:Int):nP [] [] z=bad z 8:=rfl
theorem Ud {m:Bs} (h:m≠ []) (z:Int):nP m [] z=bad z 2:=by
 cases m with
 |nil=>exact absurd rfl h
 |cons c t=>rfl
theorem Lc {m w:Bs} (h:w≠ []) (z:Int):nP m w z=z:=by
 cases w with
 |nil=>exact absurd rfl h
 |cons c t=>rfl
theorem Ld {rb:Nat} {m v r:Bs} {z z':Int} {w w1 w2:World} {S S2:ByteArray} (hS:S=bs v) (hS2:S2=bs r) (hP:Pr rb m z' w2) (hF1:Fr (at_ rb) w w1) (hF2:Fr (at_ rb) w1 w2) (hk:m.takeWhile tT=v/\m.dropWhile tT=r) (hz:nP m v z=z'):
 Ending.returned (.string S)=Ending.returned (.string (bs (m.takeWhile tT)))/\Pr rb (m.dropWhile tT) (nP m (m.takeWhile tT) z) (w2.setCell ⟨rb,0,none⟩ (.string S2))/\Fr (at_ rb) w (w2.setCell ⟨rb,0,none⟩ (.string S2)):=by
 rw[hk.1,hk.2,hz,hS];exact⟨rfl,hP.put' hS2,(hF1.trans hF2).setCell (p:=⟨rb,0,none⟩) (.inl rfl) _⟩
theorem BX {c d:UInt8} {n:Int} (hn:(d.toNat:Int)=n) (h:(c==d)=false):¬(c.toNat:Int)=n:=by
 intro e;have:=EU c d n hn;rw[h] at this;simp[e] at this
theorem Ue {c:UInt8} (h:tT c=true):¬(c.toNat:Int)=32/\¬(c.toNat:Int)=10/\¬(c.toNat:Int)=40/\¬(c.toNat:Int)=41/\¬(c.toNat:Int)=39:=by
 have hn:ends c=false:=by simpa[tT] using h
 simp only[ends,Bool.or_eq_false_iff] at hn;exact⟨BX (d:=32) rfl hn.1.1.1.1,BX (d:=10) rfl hn.1.1.1.2,BX (d:=40) rfl hn.1.1.2,BX (d:=41) rfl hn.1.2,BX (d:=39) rfl hn.2⟩
theorem Le {m:Bs} {k:Nat} (h:¬k=0) (hm:0<m.length):m.take k≠ []:=by
 intro e;rw[List.take_eq_nil_iff] at e;rcases e with e|e
 ·exact h e
 ·subst e;simp at hm
theorem gF {a b:Int} (h:¬a=b):(a !=b)=true:=by simpa using h
theorem X0 {c:UInt8} (h:tT c=false):c=32\/c=10\/c=40\/c=41\/c=39:=by
 have:ends c=true:=by simpa[tT] using h
 simpa[ends,or_assoc] using this
set_option maxHeartbeats 4000000 in
set_option maxRecDepth 20000 in
theorem eU (rb:Nat) (l:Bs) (z:Int) (w:World) (h:Pr rb l z w) (hl:l.length<=1500):
 Calls Tryz.prog 66 #[.pointer (some ⟨rb,0,none⟩)] w fun e w'=>e=.returned (.string (bs (word l z).v))/\Pr rb (word l z).l (word l z).z w'/\Fr (at_ rb) w w':=by
 have HP:=hide (eP rb l z w h hl);show Calls Tryz.prog 66 #[.pointer (some ⟨rb,0,none⟩)] w fun e w'=>e=.returned (.string (bs ((skip l).takeWhile tT)))/\Pr rb ((skip l).dropWhile tT) (nP (skip l) ((skip l).takeWhile tT) z) w'/\Fr (at_ rb) w w'
 have hml:(skip l).length<=1500:=Nat.le_trans (aG l) hl;generalize skip l=m at*;have hsz:=dz m;clear h hl
 go_enter Tryz.func66,Tryz.ntmps66
 go_wp2_with (go_at_call 53;refine HP.out.mono ?_;rintro e w1 ⟨rfl,hp,hf⟩;have c0:=hp.s;have c1:=hp.e;have f0:=hp.f0;have hlt:=hp.lt;have pY:=hide hp;have iy:=hide hf;clear hp hf)
 go_loop [3] (fun i=>∃k:Nat,k<=m.length/\i=.int .i64 k/\Hid ((m.take k).all tT=true)) (fun i=>m.length-(intOf i).toNat)
 case atStart=>exact⟨0,Nat.zero_le _,rfl,rfl⟩
 case round=>
  obtain⟨k,hk,rfl,hall⟩:=hrel;have stop:(∀c,m[k]?=some c->tT c=false)->m.takeWhile tT=m.take k/\m.dropWhile tT=m.drop k:=qR hall.out
  by_cases hkl:k<m.length
  ·have hz:(k:Int)<((bs m).size:Int):=by rw[hsz];omega
   have hz':k<(bs m).size:=by rw[hsz];omega
   generalize hc:(bs m)[k]'hz'=c;have Aj:Hid (m[k]=c):=hc;have HG:Hid (m[k]?=some c):=by show m[k]?=some c;rw[List.getElem?_eq_getElem hkl];exact congrArg some Aj.out
   cases hw:tT c with
   |true=>
    obtain⟨n1,n2,n3,n4,n5⟩:=Ue hw;have b1:=gF n1;have b2:=gF n2;have b3:=gF n3;have b4:=gF n4;have b5:=gF n5;have HL:=hide (nU hall.out hkl Aj.out hw);clear hw stop
    go_wp2
    go_round
    case rel=>exact⟨k+1,by omega,by go_num,HL⟩
    case measure=>simp[intOf];omega
   |false=>
    have HST:=hide (stop (fun c' h'=>by rw[HG.out] at h';cases h';exact hw));clear stop;have hmn:m≠ []:=by intro e;subst e;simp at hkl
    have hm0:¬(m.length:Int)=0:=by omega
    have key:=X0 hw;clear hw HG Aj
    by_cases hk0:k=0
    ·subst hk0;have HZ:=hide (Ud hmn z);have HB:=hide (eT rb m z 2 w1 pY.out);clear hmn;rcases key with rfl|rfl|rfl|rfl|rfl
     all_goals
      go_wp2_with (go_at_call 65;refine HB.out.mono ?_;rintro e w2 ⟨rfl,hp,hf⟩;have d0:=hp.s;have g0:=hp.f0;have hlt2:=hp.lt;have rD:=hide hp;have bq:=hide hf;clear hp hf)
      go_ret
      exact Ld (v:=[]) (r:=m) (by first|rfl|(rw[vY];rfl)) (by first|rfl|(rw[sP m (Nat.le_refl _)];rfl)) rD.out iy.out bq.out (by simpa using HST.out) HZ.out
    ·have hk1:¬(k:Int)=0:=by omega
     have HZ:=hide (Lc (m:=m) (w:=m.take k) (Le hk0 (by omega)) z);clear hmn;rcases key with rfl|rfl|rfl|rfl|rfl
     all_goals
      go_wp2
      go_ret
      exact Ld (v:=m.take k) (r:=m.drop k) (vY m k) (sP m (Nat.le_refl _)) pY.out iy.out (Fr.refl _ _) HST.out HZ.out
  ·have hz:¬(k:Int)<((bs m).size:Int):=by rw[hsz];omega
   have hkm:k=m.length:=by omega
   have HST:=hide (stop (fun c' h'=>by rw[List.getElem?_eq_none (by omega)] at h';cases h'));clear stop hall
   by_cases hk0:k=0
   ·have hm:m=[]:=List.length_eq_zero_iff.1 (by omega);subst hm;subst hk0;clear hkm hk;have HB:=hide (eT rb [] z 8 w1 pY.out)
    go_wp2_with (go_at_call 65;refine HB.out.mono ?_;rintro e w2 ⟨rfl,hp,hf⟩;have d0:=hp.s;have g0:=hp.f0;have hlt2:=hp.lt;have rD:=hide hp;have bq:=hide hf;clear hp hf)
    go_ret
    exact Ld (v:=[]) (r:=[]) (by first|rfl|(rw[vY];rfl)) (by first|rfl|(rw[sP [] (Nat.le_refl _)];rfl)) rD.out iy.out bq.out (by simp) (Uc z)
   ·have hk1:¬(k:Int)=0:=by omega
    have hm1:¬(m.length:Int)=0:=by omega
    have HZ:=hide (Lc (m:=m) (w:=m.take k) (Le hk0 (by omega)) z);clear hkm
    go_wp2
    go_ret
    exact Ld (v:=m.take k) (r:=m.drop k) (vY m k) (sP m (Nat.le_refl _)) pY.out iy.out (Fr.refl _ _) HST.out HZ.out
set_option maxHeartbeats 400000 in
theorem pV (rb:Nat) (l:Bs) (z:Int) (w:World) (h:Pr rb l z w) (hl:l.length<=1500):
 Calls Tryz.prog 55 #[.pointer (some ⟨rb,0,none⟩)] w fun e w'=>e=.returned (.string (bs (name l z).v))/\Pr rb (name l z).l (name l z).z w'/\Fr (at_ rb) w w':=by
 have HW:=hide (eU rb l z w h hl);have hvl:(word l z).v.length<=1500:=Nat.le_trans (List.takeWhile_sublist _).length_le (Nat.le_trans (aG l) hl);show Calls Tryz.prog 55 #[.pointer (some ⟨rb,0,none⟩)] w fun e w'=>e=.returned (.string (bs (word l z).v))/\Pr rb (word l z).l (if isName (word l z).v then(word l z).z else bad (word l z).z 7) w'/\Fr (at_ rb) w w'
 generalize word l z=q at*;obtain⟨v,l',z'⟩:=q;simp only at*;have HN:=hide (fun w=>jL v w hvl);clear h;cases hq:isName v with
 |true=>
  simp only[if_true];simp only[hq] at HN
  go_enter Tryz.func55,Tryz.ntmps55
  go_wp2_with (first
   |(go_at_call 66;refine HW.out.mono ?_;rintro e w1 ⟨rfl,hp,hf⟩;have pY:=hide hp;have iy:=hide hf;clear hp hf)
   |(go_at_call 67;refine(HN.out _).mono ?_;rintro e w2 ⟨rfl,hf⟩;have bq:=hide hf;clear hf))
  go_ret
  exact⟨rfl,pY.out.fr bq.out id,iy.out.trans (bq.out.mono (fun _ _ e=>e.elim))⟩
 |false=>
  simp only[Bool.false_eq_true,if_false];simp only[hq] at HN
  go_enter Tryz.func55,Tryz.ntmps55
  go_wp2_with (first
   |(go_at_call 66;refine HW.out.mono ?_;rintro e w1 ⟨rfl,hp,hf⟩;have pY:=hide hp;have iy:=hide hf;clear hp hf)
   |(go_at_call 67;refine(HN.out _).mono ?_;rintro e w2 ⟨rfl,hf⟩;have HB:=hide (eT rb l' z' 7 w2 (pY.out.fr hf id));have bq:=hide hf;clear hf)
   |(go_at_call 65;refine HB.out.mono ?_;rintro e w3 ⟨rfl,hp,hf⟩;have Qv:=hide hp;have dX:=hide hf;clear hp hf))
  go_ret
  exact⟨rfl,Qv.out,(iy.out.trans (bq.out.mono (fun _ _ e=>e.elim))).trans dX.out⟩
end
section
def leftOf (w:World) (rb:Nat):Nat:=
 match w.cell? ⟨rb,1,none⟩ with
 |some (.int .i64 z)=>if z=0 then lenOf w rb+1 else 0
 |_=>0
theorem Pr.lg {rb:Nat} {l:Bs} {w:World} (h:Pr rb l 0 w):leftOf w rb=l.length+1:=by
 simp[leftOf,h.e,h.lenOf]
theorem Pr.vZ {rb:Nat} {l:Bs} {z:Int} {w:World} (h:Pr rb l z w) (hz:z≠0):leftOf w rb=0:=by
 simp[leftOf,h.e,hz]
def Rd.after {α:Type} (r:Rd (List α)) (ac:List α):Rd (List α):=⟨ac++r.v,r.l,r.z⟩
theorem uH {α:Type} (one:Reader α) {m:Nat} (hm:0<m) (l:Bs) {z:Int} (hz:z≠0):aB one m l z=⟨[],(must 41 l z).l,(must 41 l z).z⟩:=by
 obtain⟨k,rfl⟩:∃k,m=k+1:=⟨m-1,by omega⟩
 unfold aB;rw[if_neg hz]
theorem uI {α:Type} (one:Reader α) {m:Nat} (hm:0<m) {l t:Bs} (hs:skip l=41::t):aB one m l 0=⟨[],t,0⟩:=by
 obtain⟨k,rfl⟩:∃k,m=k+1:=⟨m-1,by omega⟩
 unfold aB;rw[if_pos rfl,hs];simp
theorem qU {α:Type} (one:Reader α) (k:Nat) {l:Bs} (hs:(skip l).head?≠some 41):aB one (k+1) l 0=(aB one k (one (skip l) 0).l (one (skip l) 0).z).after [(one (skip l) 0).v]:=by
 rw[aB];simp only[if_true,if_neg hs];rfl
theorem dS {α:Type} (r:Rd (List α)) (a b:List α):(r.after b).after a=r.after (a++b):=by
 simp[Rd.after]
theorem gq {α:Type} (r:Rd (List α)):r.after []=r:=by
 cases r;simp[Rd.after]
theorem uJ (c:UInt8) (l:Bs) (z:Int):must c (skip l) z=must c l z:=by unfold must;rw[LG]
theorem JS {l:Bs} (h:l.head?≠some 41):¬((bS l).toNat:Int)=41:=by
 intro e;have e1:(bS l).toNat=(41:UInt8).toNat:=by
  have:((41:UInt8).toNat:Int)=41:=rfl;omega
 have e2:=UInt8.toNat_inj.1 e1;cases l with
 |nil=>cases e2
 |cons c t=>
  rw[sO (by decide)] at e2;subst e2;exact h rfl
set_option maxHeartbeats 400000 in
theorem Uf {α:Type} (rb:Nat) (c0 c1 c2:Value) (one:Reader α) (J:List α->Bs->Int->World->Prop) (hless:Less one) (hsmall:Small one)
 (hJ:∀acc l z w,J acc l z w->Pr rb l z w/\l.length<=1500)
 (hm:∀acc l l' z z' w w',J acc l z w->Pr rb l' z' w'->l'.length<=l.length->(z'=0->z=0)->Fr (at_ rb) w w'->J acc l' z' w')
 (hcl:∀acc l w,J acc l 0 w->Calls Tryz.prog 84 #[c0,c1,c2] w fun e w'=>e=.returned (.tuple #[])/\J (acc++ [(one l 0).v]) (one l 0).l (one l 0).z w')
 (n:Nat) (acc:List α) (l:Bs) (z:Int) (w:World) (h:J acc l z w) (hn0:0<n) (hn:z=0->l.length+1<n):
 Calls Tryz.prog 56 #[.pointer (some ⟨rb,0,none⟩),.func (.func 84) #[] #[c0,c1,c2]] w fun e w'=>e=.returned (.tuple #[])/\J (acc++(aB one n l z).v) (aB one n l z).l (aB one n l z).z w':=by
 have HJ:=hide hJ;have HM:=hide hm;have XZ:=hide hcl;have H0:=hide h;have zD:=hide hless;have Sy:=hide hsmall;clear hJ hm hcl h hless hsmall
 go_enter Tryz.func56,Tryz.ntmps56
 go_wp2
 go_loopw [] (fun wr=>∃(m:Nat) (ac:List α) (q:Bs) (zq:Int),0<m/\Hid (zq=0->q.length+1<m)/\Hid (J (acc++ac) q zq wr/\aB one n l z=(aB one m q zq).after ac)) (fun wr=>leftOf wr rb)
 case atStart=>
  refine⟨n,[],l,z,hn0,hn,?_,(gq _).symm⟩
  rw[List.append_nil];exact H0.out
 case round=>
  obtain⟨m,ac,q,zq,hm0,hm1,hR⟩:=hrel;obtain⟨hP,MO⟩:=HJ.out _ _ _ _ hR.out.1;have c1:=hP.e;have hlt:=hP.lt
  by_cases hz:zq=0
  ·subst hz;have oO:=hide (eP rb q 0 wr hP MO);have hlen:=aG q
   by_cases hs:(skip q).head?=some 41
   ·obtain⟨t,ht⟩:∃t,skip q=41::t:=by
     cases hk:skip q with
     |nil=>rw[hk] at hs;simp at hs
     |cons c t=>rw[hk] at hs;simp at hs;subst hs;exact⟨t,rfl⟩
    have HE:=hide (uI one hm0 ht);have e2:((bS (skip q)).toNat:Int)=41:=by rw[ht];rfl
    have e3:must 41 (skip q) 0=⟨(),t,0⟩:=by rw[uJ];unfold must;rw[ht];simp
    rw[e2] at oO;have X3:=hide e3;have htl:t.length<=q.length:=by rw[ht] at hlen;simp at hlen;omega
    clear hP hs e2 e3
    go_wp2_with (first
     |(go_at_call 53;refine oO.out.mono ?_;rintro e w1 ⟨rfl,hp,hf⟩;have zF:=hide (bR rb _ 0 41 w1 hp (by omega) (by decide));have iy:=hide hf;clear hp hf)
     |(go_at_call 54;refine zF.out.mono ?_;rintro e w2 ⟨rfl,hp,hf⟩;have rD:=hide hp;have bq:=hide hf;clear hp hf))
    go_end0
    refine⟨rfl,?_⟩
    rw[hR.out.2,HE.out];have hp:=rD.out;rw[X3.out] at hp;simp only[Rd.after,List.append_nil];exact HM.out _ _ _ _ _ _ _ hR.out.1 hp htl (fun _=>rfl) (iy.out.trans bq.out)
   ·obtain⟨m,rfl⟩:∃k,m=k+1:=⟨m-1,by omega⟩
    have HE:=hide (qU one m hs);have e2:=JS hs;have b2:=gF e2;clear hP hs
    go_wp2_with (first
     |(go_at_call 53;refine oO.out.mono ?_;rintro e w1 ⟨rfl,hp,hf⟩;have HC:=hide (XZ.out _ _ _ (HM.out _ _ _ _ _ _ _ hR.out.1 hp hlen (fun _=>rfl) hf));clear hp hf)
     |(go_at_call 84;refine HC.out.mono ?_;rintro e w2 ⟨rfl,hj⟩;have HJ2:=hide hj;clear hj))
    have hP2:=(HJ.out _ _ _ _ HJ2.out).1;have hm2:=hm1.out trivial;refine⟨⟨m,ac++ [(one (skip q) 0).v],(one (skip q) 0).l,(one (skip q) 0).z,by omega,fun hz=>?_,?_,?_⟩,?_⟩
    ·have:=zD.out (skip q) hz;omega
    ·rw[<-List.append_assoc];exact HJ2.out
    ·rw[hR.out.2,HE.out,dS]
    ·rw[(HJ.out _ _ _ _ hR.out.1).1.lg]
     by_cases hz:(one (skip q) 0).z=0
     ·have:=zD.out (skip q) hz;rw[hz] at hP2;rw[hP2.lg];omega
     ·rw[hP2.vZ hz];omega
  ·have HE:=hide (uH one hm0 q hz);have zF:=hide (bR rb q zq 41 wr hP MO (by decide));clear hP
   go_wp2_with (first
    |(go_at_call 54;refine zF.out.mono ?_;rintro e w2 ⟨rfl,hp,hf⟩;have rD:=hide hp;have bq:=hide hf;clear hp hf))
   go_end0
   refine⟨rfl,?_⟩
   rw[hR.out.2,HE.out];simp only[Rd.after,List.append_nil];exact HM.out _ _ _ _ _ _ _ hR.out.1 rD.out (aJ 41 _ _) (fun h=>absurd ((bJ 41 q zq hz).symm.trans h) hz) bq.out
set_option maxHeartbeats 400000 in
theorem Ug {α:Type} (rb:Nat) (c0 c1 c2:Value) (one:Reader α) (J:List α->Bs->Int->World->Prop) (hless:Less one) (hsmall:Small one)
 (hJ:∀acc l z w,J acc l z w->Pr rb l z w/\l.length<=1500)
 (hm:∀acc l l' z z' w w',J acc l z w->Pr rb l' z' w'->l'.length<=l.length->(z'=0->z=0)->Fr (at_ rb) w w'->J acc l' z' w')
 (hcl:∀acc l w,J acc l 0 w->Calls Tryz.prog 68 #[c0,c1,c2] w fun e w'=>e=.returned (.tuple #[])/\J (acc++ [(one l 0).v]) (one l 0).l (one l 0).z w')
 (n:Nat) (acc:List α) (l:Bs) (z:Int) (w:World) (h:J acc l z w) (hn0:0<n) (hn:z=0->l.length+1<n):
 Calls Tryz.prog 56 #[.pointer (some ⟨rb,0,none⟩),.func (.func 68) #[] #[c0,c1,c2]] w fun e w'=>e=.returned (.tuple #[])/\J (acc++(aB one n l z).v) (aB one n l z).l (aB one n l z).z w':=by
 have HJ:=hide hJ;have HM:=hide hm;have XZ:=hide hcl;have H0:=hide h;have zD:=hide hless;have Sy:=hide hsmall;clear hJ hm hcl h hless hsmall
 go_enter Tryz.func56,Tryz.ntmps56
 go_wp2
 go_loopw [] (fun wr=>∃(m:Nat) (ac:List α) (q:Bs) (zq:Int),0<m/\Hid (zq=0->q.length+1<m)/\Hid (J (acc++ac) q zq wr/\aB one n l z=(aB one m q zq).after ac)) (fun wr=>leftOf wr rb)
 case atStart=>
  refine⟨n,[],l,z,hn0,hn,?_,(gq _).symm⟩
  rw[List.append_nil];exact H0.out
 case round=>
  obtain⟨m,ac,q,zq,hm0,hm1,hR⟩:=hrel;obtain⟨hP,MO⟩:=HJ.out _ _ _ _ hR.out.1;have c1:=hP.e;have hlt:=hP.lt
  by_cases hz:zq=0
  ·subst hz;have oO:=hide (eP rb q 0 wr hP MO);have hlen:=aG q
   by_cases hs:(skip q).head?=some 41
   ·obtain⟨t,ht⟩:∃t,skip q=41::t:=by
     cases hk:skip q with
     |nil=>rw[hk] at hs;simp at hs
     |cons c t=>rw[hk] at hs;simp at hs;subst hs;exact⟨t,rfl⟩
    have HE:=hide (uI one hm0 ht);have e2:((bS (skip q)).toNat:Int)=41:=by rw[ht];rfl
    have e3:must 41 (skip q) 0=⟨(),t,0⟩:=by rw[uJ];unfold must;rw[ht];simp
    rw[e2] at oO;have X3:=hide e3;have htl:t.length<=q.length:=by rw[ht] at hlen;simp at hlen;omega
    clear hP hs e2 e3
    go_wp2_with (first
     |(go_at_call 53;refine oO.out.mono ?_;rintro e w1 ⟨rfl,hp,hf⟩;have zF:=hide (bR rb _ 0 41 w1 hp (by omega) (by decide));have iy:=hide hf;clear hp hf)
     |(go_at_call 54;refine zF.out.mono ?_;rintro e w2 ⟨rfl,hp,hf⟩;have rD:=hide hp;have bq:=hide hf;clear hp hf))
    go_end0
    refine⟨rfl,?_⟩
    rw[hR.out.2,HE.out];have hp:=rD.out;rw[X3.out] at hp;simp only[Rd.after,List.append_nil];exact HM.out _ _ _ _ _ _ _ hR.out.1 hp htl (fun _=>rfl) (iy.out.trans bq.out)
   ·obtain⟨m,rfl⟩:∃k,m=k+1:=⟨m-1,by omega⟩
    have HE:=hide (qU one m hs);have e2:=JS hs;have b2:=gF e2;clear hP hs
    go_wp2_with (first
     |(go_at_call 53;refine oO.out.mono ?_;rintro e w1 ⟨rfl,hp,hf⟩;have HC:=hide (XZ.out _ _ _ (HM.out _ _ _ _ _ _ _ hR.out.1 hp hlen (fun _=>rfl) hf));clear hp hf)
     |(go_at_call 68;refine HC.out.mono ?_;rintro e w2 ⟨rfl,hj⟩;have HJ2:=hide hj;clear hj))
    have hP2:=(HJ.out _ _ _ _ HJ2.out).1;have hm2:=hm1.out trivial;refine⟨⟨m,ac++ [(one (skip q) 0).v],(one (skip q) 0).l,(one (skip q) 0).z,by omega,fun hz=>?_,?_,?_⟩,?_⟩
    ·have:=zD.out (skip q) hz;omega
    ·rw[<-List.append_assoc];exact HJ2.out
    ·rw[hR.out.2,HE.out,dS]
    ·rw[(HJ.out _ _ _ _ hR.out.1).1.lg]
     by_cases hz:(one (skip q) 0).z=0
     ·have:=zD.out (skip q) hz;rw[hz] at hP2;rw[hP2.lg];omega
     ·rw[hP2.vZ hz];omega
  ·have HE:=hide (uH one hm0 q hz);have zF:=hide (bR rb q zq 41 wr hP MO (by decide));clear hP
   go_wp2_with (first
    |(go_at_call 54;refine zF.out.mono ?_;rintro e w2 ⟨rfl,hp,hf⟩;have rD:=hide hp;have bq:=hide hf;clear hp hf))
   go_end0
   refine⟨rfl,?_⟩
   rw[hR.out.2,HE.out];simp only[Rd.after,List.append_nil];exact HM.out _ _ _ _ _ _ _ hR.out.1 rD.out (aJ 41 _ _) (fun h=>absurd ((bJ 41 q zq hz).symm.trans h) hz) bq.out
set_option maxHeartbeats 400000 in
theorem Uh {α:Type} (rb:Nat) (c0 c1:Value) (one:Reader α) (J:List α->Bs->Int->World->Prop) (hless:Less one) (hsmall:Small one)
 (hJ:∀acc l z w,J acc l z w->Pr rb l z w/\l.length<=1500)
 (hm:∀acc l l' z z' w w',J acc l z w->Pr rb l' z' w'->l'.length<=l.length->(z'=0->z=0)->Fr (at_ rb) w w'->J acc l' z' w')
 (hcl:∀acc l w,J acc l 0 w->Calls Tryz.prog 57 #[c0,c1] w fun e w'=>e=.returned (.tuple #[])/\J (acc++ [(one l 0).v]) (one l 0).l (one l 0).z w')
 (n:Nat) (acc:List α) (l:Bs) (z:Int) (w:World) (h:J acc l z w) (hn0:0<n) (hn:z=0->l.length+1<n):
 Calls Tryz.prog 56 #[.pointer (some ⟨rb,0,none⟩),.func (.func 57) #[] #[c0,c1]] w fun e w'=>e=.returned (.tuple #[])/\J (acc++(aB one n l z).v) (aB one n l z).l (aB one n l z).z w':=by
 have HJ:=hide hJ;have HM:=hide hm;have XZ:=hide hcl;have H0:=hide h;have zD:=hide hless;have Sy:=hide hsmall;clear hJ hm hcl h hless hsmall
 go_enter Tryz.func56,Tryz.ntmps56
 go_wp2
 go_loopw [] (fun wr=>∃(m:Nat) (ac:List α) (q:Bs) (zq:Int),0<m/\Hid (zq=0->q.length+1<m)/\Hid (J (acc++ac) q zq wr/\aB one n l z=(aB one m q zq).after ac)) (fun wr=>leftOf wr rb)
 case atStart=>
  refine⟨n,[],l,z,hn0,hn,?_,(gq _).symm⟩
  rw[List.append_nil];exact H0.out
 case round=>
  obtain⟨m,ac,q,zq,hm0,hm1,hR⟩:=hrel;obtain⟨hP,MO⟩:=HJ.out _ _ _ _ hR.out.1;have c1:=hP.e;have hlt:=hP.lt
  by_cases hz:zq=0
  ·subst hz;have oO:=hide (eP rb q 0 wr hP MO);have hlen:=aG q
   by_cases hs:(skip q).head?=some 41
   ·obtain⟨t,ht⟩:∃t,skip q=41::t:=by
     cases hk:skip q with
     |nil=>rw[hk] at hs;simp at hs
     |cons c t=>rw[hk] at hs;simp at hs;subst hs;exact⟨t,rfl⟩
    have HE:=hide (uI one hm0 ht);have e2:((bS (skip q)).toNat:Int)=41:=by rw[ht];rfl
    have e3:must 41 (skip q) 0=⟨(),t,0⟩:=by rw[uJ];unfold must;rw[ht];simp
    rw[e2] at oO;have X3:=hide e3;have htl:t.length<=q.length:=by rw[ht] at hlen;simp at hlen;omega
    clear hP hs e2 e3
    go_wp2_with (first
     |(go_at_call 53;refine oO.out.mono ?_;rintro e w1 ⟨rfl,hp,hf⟩;have zF:=hide (bR rb _ 0 41 w1 hp (by omega) (by decide));have iy:=hide hf;clear hp hf)
     |(go_at_call 54;refine zF.out.mono ?_;rintro e w2 ⟨rfl,hp,hf⟩;have rD:=hide hp;have bq:=hide hf;clear hp hf))
    go_end0
    refine⟨rfl,?_⟩
    rw[hR.out.2,HE.out];have hp:=rD.out;rw[X3.out] at hp;simp only[Rd.after,List.append_nil];exact HM.out _ _ _ _ _ _ _ hR.out.1 hp htl (fun _=>rfl) (iy.out.trans bq.out)
   ·obtain⟨m,rfl⟩:∃k,m=k+1:=⟨m-1,by omega⟩
    have HE:=hide (qU one m hs);have e2:=JS hs;have b2:=gF e2;clear hP hs
    go_wp2_with (first
     |(go_at_call 53;refine oO.out.mono ?_;rintro e w1 ⟨rfl,hp,hf⟩;have HC:=hide (XZ.out _ _ _ (HM.out _ _ _ _ _ _ _ hR.out.1 hp hlen (fun _=>rfl) hf));clear hp hf)
     |(go_at_call 57;refine HC.out.mono ?_;rintro e w2 ⟨rfl,hj⟩;have HJ2:=hide hj;clear hj))
    have hP2:=(HJ.out _ _ _ _ HJ2.out).1;have hm2:=hm1.out trivial;refine⟨⟨m,ac++ [(one (skip q) 0).v],(one (skip q) 0).l,(one (skip q) 0).z,by omega,fun hz=>?_,?_,?_⟩,?_⟩
    ·have:=zD.out (skip q) hz;omega
    ·rw[<-List.append_assoc];exact HJ2.out
    ·rw[hR.out.2,HE.out,dS]
    ·rw[(HJ.out _ _ _ _ hR.out.1).1.lg]
     by_cases hz:(one (skip q) 0).z=0
     ·have:=zD.out (skip q) hz;rw[hz] at hP2;rw[hP2.lg];omega
     ·rw[hP2.vZ hz];omega
  ·have HE:=hide (uH one hm0 q hz);have zF:=hide (bR rb q zq 41 wr hP MO (by decide));clear hP
   go_wp2_with (first
    |(go_at_call 54;refine zF.out.mono ?_;rintro e w2 ⟨rfl,hp,hf⟩;have rD:=hide hp;have bq:=hide hf;clear hp hf))
   go_end0
   refine⟨rfl,?_⟩
   rw[hR.out.2,HE.out];simp only[Rd.after,List.append_nil];exact HM.out _ _ _ _ _ _ _ hR.out.1 rD.out (aJ 41 _ _) (fun h=>absurd ((bJ 41 q zq hz).symm.trans h) hz) bq.out
end
end Go.Proofs.YtbcadjgpcfmkfaaGreatDoor
