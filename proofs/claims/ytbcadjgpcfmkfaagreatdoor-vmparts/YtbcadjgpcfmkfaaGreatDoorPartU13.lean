/- MCell; MTwo; MOps; MNum; MLeave. -/
import Derived.Test.YtbcadjgpcfmkfaaGreatDoorPartU12
import Derived.Test.YtbcadjgpcfmkfaaGreatDoorPartU1
set_option maxHeartbeats 0
set_option maxRecDepth 100000
set_option linter.unusedSimpArgs false
namespace Go.Proofs.YtbcadjgpcfmkfaaGreatDoor
open Go Go.RowKit
section
theorem WZ (t:Bs):(bs t).extract 0 60=bs (t.take 60):=by
 apply ByteArray.ext
 simp[bs]
theorem W9 (a b:Bs):bs a++bs b=bs (a++b):=by
 apply ByteArray.ext
 simp[bs]
theorem uC (t:Bs) (w:World) (hm:t.length<=9223372036854775807):
 Calls Tryz.prog 39 #[.string (bs t)] w fun e w'=>e=.returned (vv (ji t))/\Fr nothing w w':=by
 have hsz:=dz t;have hv:vv (ji t)=vv ⟨1,0,t.take 60⟩:=rfl;rw[hv];clear hv
 by_cases h:60<t.length
 ·have h60:=WZ t
  go_enter Tryz.func39,Tryz.ntmps39
  go_wp2
  refine bodyPost_ret (v:=vv ⟨1,0,t.take 60⟩) (by simp[results,Tryz.results39,go_sem]) rfl ⟨rfl,?_⟩
  exact(Fr.refl _ _).alloc _
 ·have ht:t.take 60=t:=List.take_of_length_le (by omega);rw[ht]
  go_enter Tryz.func39,Tryz.ntmps39
  go_wp2
  refine bodyPost_ret (v:=vv ⟨1,0,t⟩) (by simp[results,Tryz.results39,go_sem]) rfl ⟨rfl,?_⟩
  exact(Fr.refl _ _).alloc _
theorem qK (b:Bool) (w:World):
 Calls Tryz.prog 74 #[.bool b] w fun e w'=>e=.returned (vv (qI b))/\Fr nothing w w':=by
 have bV:Hid (∀w',Fr nothing (w.alloc (.cells #[.int .i64 0,.int .i64 0,.string ⟨#[]⟩] 53)) w'->w'.cell? ⟨w.heap.size,0,none⟩=some (.int .i64 0)/\w'.cell? ⟨w.heap.size,1,none⟩=some (.int .i64 0)/\w'.cell? ⟨w.heap.size,2,none⟩=some (.string ⟨#[]⟩)/\(w'.frozen? ⟨w.heap.size,0,none⟩=false/\w'.frozen? ⟨w.heap.size,1,none⟩=false/\w'.frozen? ⟨w.heap.size,2,none⟩=false)/\w.heap.size<w'.heap.size):=fun w' hf=>by
  have mA:=af (Fr.refl nothing (w.alloc (.cells #[.int .i64 0,.int .i64 0,.string ⟨#[]⟩] 53))) id;have hc:∀j,w'.cell? ⟨w.heap.size,j,none⟩=_:=fun j=>(hf.cell (p:=⟨w.heap.size,j,none⟩) mA.2.2 id).trans (mA.1 j)
  have hz:∀j,w'.frozen? ⟨w.heap.size,j,none⟩=_:=fun j=>(hf.frozen (p:=⟨w.heap.size,j,none⟩) mA.2.2 id).trans (mA.2.1 j)
  exact⟨hc 0,hc 1,hc 2,⟨hz 0,hz 1,hz 2⟩,Nat.lt_of_lt_of_le mA.2.2 hf.size⟩
 cases b
 ·have hi:si 0=⟨0,0,[]⟩:=rfl;have hv:vv (qI false)=vv ⟨0,0,[]⟩:=rfl;rw[hv];clear hv;have HC:=hide (fun w=>oG 0 w);rw[hi] at HC
  go_enter Tryz.func74,Tryz.ntmps74
  go_wp2_with (go_at_call 81;refine(HC.out _).mono ?_;rintro e w2 ⟨rfl,hf2⟩;obtain⟨n0,n1,n2,⟨z0,z1,z2⟩,nl⟩:=bV.out _ hf2;have bq:=hide hf2;clear hf2)
  refine bodyPost_ret (v:=vv ⟨0,0,[]⟩) (by simp[results,Tryz.results74,go_sem,n0,n1,n2]) rfl ⟨rfl,?_⟩
  exact(((((Fr.refl nothing w).alloc (.cells #[.int .i64 0,.int .i64 0,.string ⟨#[]⟩] 53)).trans bq.out).setCell (p:=⟨w.heap.size,0,none⟩) (.inr (Nat.le_refl _)) _).setCell (p:=⟨w.heap.size,1,none⟩) (.inr (Nat.le_refl _)) _).setCell (p:=⟨w.heap.size,2,none⟩) (.inr (Nat.le_refl _)) _
 ·have hi:si 1=⟨0,1,[]⟩:=rfl;have hv:vv (qI true)=vv ⟨0,1,[]⟩:=rfl;rw[hv];clear hv;have HC:=hide (fun w=>oG 1 w);rw[hi] at HC
  go_enter Tryz.func74,Tryz.ntmps74
  go_wp2_with (go_at_call 81;refine(HC.out _).mono ?_;rintro e w2 ⟨rfl,hf2⟩;obtain⟨n0,n1,n2,⟨z0,z1,z2⟩,nl⟩:=bV.out _ hf2;have bq:=hide hf2;clear hf2)
  refine bodyPost_ret (v:=vv ⟨0,1,[]⟩) (by simp[results,Tryz.results74,go_sem,n0,n1,n2]) rfl ⟨rfl,?_⟩
  exact(((((Fr.refl nothing w).alloc (.cells #[.int .i64 0,.int .i64 0,.string ⟨#[]⟩] 53)).trans bq.out).setCell (p:=⟨w.heap.size,0,none⟩) (.inr (Nat.le_refl _)) _).setCell (p:=⟨w.heap.size,1,none⟩) (.inr (Nat.le_refl _)) _).setCell (p:=⟨w.heap.size,2,none⟩) (.inr (Nat.le_refl _)) _
theorem Hz (op:Int) (a b:Bs) (w:World) (ha:a.length<=60) (hb:b.length<=60):
 Calls Tryz.prog 75 #[.int .i64 op,.string (bs a),.string (bs b)] w fun e w'=>e=.returned (.tuple #[vv (if op=1 then ji (a++b) else if op=4 then qI (xM a b) else v0),.int .i64 (if op=1\/op=4 then 0 else 11)])/\Fr nothing w w':=by
 have bV:Hid (∀w',Fr nothing (w.alloc (.cells #[.int .i64 0,.int .i64 0,.string ⟨#[]⟩] 53)) w'->w'.cell? ⟨w.heap.size,0,none⟩=some (.int .i64 0)/\w'.cell? ⟨w.heap.size,1,none⟩=some (.int .i64 0)/\w'.cell? ⟨w.heap.size,2,none⟩=some (.string ⟨#[]⟩)/\(w'.frozen? ⟨w.heap.size,0,none⟩=false/\w'.frozen? ⟨w.heap.size,1,none⟩=false/\w'.frozen? ⟨w.heap.size,2,none⟩=false)/\w.heap.size<w'.heap.size):=fun w' hf=>by
  have mA:=af (Fr.refl nothing (w.alloc (.cells #[.int .i64 0,.int .i64 0,.string ⟨#[]⟩] 53))) id;have hc:∀j,w'.cell? ⟨w.heap.size,j,none⟩=_:=fun j=>(hf.cell (p:=⟨w.heap.size,j,none⟩) mA.2.2 id).trans (mA.1 j)
  have hz:∀j,w'.frozen? ⟨w.heap.size,j,none⟩=_:=fun j=>(hf.frozen (p:=⟨w.heap.size,j,none⟩) mA.2.2 id).trans (mA.2.1 j)
  exact⟨hc 0,hc 1,hc 2,⟨hz 0,hz 1,hz 2⟩,Nat.lt_of_lt_of_le mA.2.2 hf.size⟩
 have hsa:=dz a;have hsb:=dz b
 by_cases o1:op=1
 ·rw[if_pos o1,if_pos (.inl o1)];subst o1;have hab:bs a++bs b=bs (a++b):=W9 a b;have HC:=hide (fun w=>uC (a++b) w (by rw[List.length_append];omega))
  generalize ji (a++b)=z at HC
  go_enter Tryz.func75,Tryz.ntmps75
  go_wp2_with (go_at_call 39;refine(HC.out _).mono ?_;rintro e w2 ⟨rfl,hf2⟩;obtain⟨n0,n1,n2,⟨z0,z1,z2⟩,nl⟩:=bV.out _ hf2;have bq:=hide hf2;clear hf2)
  refine bodyPost_ret (v:=.tuple #[vv z,.int .i64 0]) (by simp[results,Tryz.results75,go_sem,n0,n1,n2]) rfl ⟨rfl,?_⟩
  exact(((((Fr.refl nothing w).alloc (.cells #[.int .i64 0,.int .i64 0,.string ⟨#[]⟩] 53)).trans bq.out).setCell (p:=⟨w.heap.size,0,none⟩) (.inr (Nat.le_refl _)) _).setCell (p:=⟨w.heap.size,1,none⟩) (.inr (Nat.le_refl _)) _).setCell (p:=⟨w.heap.size,2,none⟩) (.inr (Nat.le_refl _)) _
 rw[if_neg o1]
 by_cases o4:op=4
 ·rw[if_pos o4,if_pos (.inr o4)];subst o4;have hl:Op.bytesLess (bs a).toList (bs b).toList=xM a b:=by unfold xM;rw[gY,gY]
  have HC:=hide (fun b w=>qK b w);generalize xM a b=z at hl;have HD:=hide (HC.out z);generalize qI z=y at HD
  go_enter Tryz.func75,Tryz.ntmps75
  go_wp2_with (go_at_call 74;refine(HD.out _).mono ?_;rintro e w2 ⟨rfl,hf2⟩;obtain⟨n0,n1,n2,⟨z0,z1,z2⟩,nl⟩:=bV.out _ hf2;have bq:=hide hf2;clear hf2)
  refine bodyPost_ret (v:=.tuple #[vv y,.int .i64 0]) (by simp[results,Tryz.results75,go_sem,n0,n1,n2]) rfl ⟨rfl,?_⟩
  exact(((((Fr.refl nothing w).alloc (.cells #[.int .i64 0,.int .i64 0,.string ⟨#[]⟩] 53)).trans bq.out).setCell (p:=⟨w.heap.size,0,none⟩) (.inr (Nat.le_refl _)) _).setCell (p:=⟨w.heap.size,1,none⟩) (.inr (Nat.le_refl _)) _).setCell (p:=⟨w.heap.size,2,none⟩) (.inr (Nat.le_refl _)) _
 rw[if_neg o4,if_neg (fun e=>e.elim o1 o4)];have h1:(op==1)=false:=by simpa using o1
 have h4:(op==4)=false:=by simpa using o4
 go_enter Tryz.func75,Tryz.ntmps75
 go_wp2
 refine bodyPost_ret (v:=.tuple #[vv v0,.int .i64 11]) (by simp[results,Tryz.results75,go_sem,bs]) rfl ⟨rfl,?_⟩
 exact(Fr.refl _ _).alloc _
theorem TF {a b:Int} (ha:-1073741824<=a/\a<=1073741824) (hb:-1073741824<=b/\b<=1073741824):-9223372036854775808<=a*b/\a*b<=9223372036854775807:=by
 have h1:(a*b).natAbs<=1073741824*1073741824:=by
  rw[Int.natAbs_mul];exact Nat.mul_le_mul (by omega) (by omega)
 omega
def EB (op a b:Int):Val:=if op=1 then si (a+b) else if op=2 then si (a-b) else if op=3 then si (a*b) else qI (decide (a<b))
theorem Mk (op a b:Int) (w:World) (ha:-1073741824<=a/\a<=1073741824) (hb:-1073741824<=b/\b<=1073741824):
 Calls Tryz.prog 76 #[.int .i64 op,.int .i64 a,.int .i64 b] w fun e w'=>e=.returned (vv (EB op a b))/\Fr nothing w w':=by
 have bV:Hid (∀w',Fr nothing (w.alloc (.cells #[.int .i64 0,.int .i64 0,.string ⟨#[]⟩] 53)) w'->w'.cell? ⟨w.heap.size,0,none⟩=some (.int .i64 0)/\w'.cell? ⟨w.heap.size,1,none⟩=some (.int .i64 0)/\w'.cell? ⟨w.heap.size,2,none⟩=some (.string ⟨#[]⟩)/\(w'.frozen? ⟨w.heap.size,0,none⟩=false/\w'.frozen? ⟨w.heap.size,1,none⟩=false/\w'.frozen? ⟨w.heap.size,2,none⟩=false)/\w.heap.size<w'.heap.size):=fun w' hf=>by
  have mA:=af (Fr.refl nothing (w.alloc (.cells #[.int .i64 0,.int .i64 0,.string ⟨#[]⟩] 53))) id;have hc:∀j,w'.cell? ⟨w.heap.size,j,none⟩=_:=fun j=>(hf.cell (p:=⟨w.heap.size,j,none⟩) mA.2.2 id).trans (mA.1 j)
  have hz:∀j,w'.frozen? ⟨w.heap.size,j,none⟩=_:=fun j=>(hf.frozen (p:=⟨w.heap.size,j,none⟩) mA.2.2 id).trans (mA.2.1 j)
  exact⟨hc 0,hc 1,hc 2,⟨hz 0,hz 1,hz 2⟩,Nat.lt_of_lt_of_le mA.2.2 hf.size⟩
 have hm:=TF ha hb;unfold EB
 by_cases o1:op=1
 ·rw[if_pos o1];subst o1;have hw:IntKind.i64.wrap (a+b)=a+b:=aO _ (by omega) (by omega);have HC:=hide (fun w=>oG (a+b) w);generalize si (a+b)=z at HC
  go_enter Tryz.func76,Tryz.ntmps76
  go_wp2_with (go_at_call 81;refine(HC.out _).mono ?_;rintro e w2 ⟨rfl,hf2⟩;obtain⟨n0,n1,n2,⟨z0,z1,z2⟩,nl⟩:=bV.out _ hf2;have bq:=hide hf2;clear hf2)
  refine bodyPost_ret (v:=vv z) (by simp[results,Tryz.results76,go_sem,n0,n1,n2]) rfl ⟨rfl,?_⟩
  exact(((((Fr.refl nothing w).alloc (.cells #[.int .i64 0,.int .i64 0,.string ⟨#[]⟩] 53)).trans bq.out).setCell (p:=⟨w.heap.size,0,none⟩) (.inr (Nat.le_refl _)) _).setCell (p:=⟨w.heap.size,1,none⟩) (.inr (Nat.le_refl _)) _).setCell (p:=⟨w.heap.size,2,none⟩) (.inr (Nat.le_refl _)) _
 rw[if_neg o1]
 by_cases o2:op=2
 ·rw[if_pos o2];subst o2;have hw:IntKind.i64.wrap (a-b)=a-b:=aO _ (by omega) (by omega);have HC:=hide (fun w=>oG (a-b) w);generalize si (a-b)=z at HC
  go_enter Tryz.func76,Tryz.ntmps76
  go_wp2_with (go_at_call 81;refine(HC.out _).mono ?_;rintro e w2 ⟨rfl,hf2⟩;obtain⟨n0,n1,n2,⟨z0,z1,z2⟩,nl⟩:=bV.out _ hf2;have bq:=hide hf2;clear hf2)
  refine bodyPost_ret (v:=vv z) (by simp[results,Tryz.results76,go_sem,n0,n1,n2]) rfl ⟨rfl,?_⟩
  exact(((((Fr.refl nothing w).alloc (.cells #[.int .i64 0,.int .i64 0,.string ⟨#[]⟩] 53)).trans bq.out).setCell (p:=⟨w.heap.size,0,none⟩) (.inr (Nat.le_refl _)) _).setCell (p:=⟨w.heap.size,1,none⟩) (.inr (Nat.le_refl _)) _).setCell (p:=⟨w.heap.size,2,none⟩) (.inr (Nat.le_refl _)) _
 rw[if_neg o2]
 by_cases o3:op=3
 ·rw[if_pos o3];subst o3;have hw:IntKind.i64.wrap (a*b)=a*b:=aO _ (by omega) (by omega);have HC:=hide (fun w=>oG (a*b) w);generalize si (a*b)=z at HC
  go_enter Tryz.func76,Tryz.ntmps76
  go_wp2_with (go_at_call 81;refine(HC.out _).mono ?_;rintro e w2 ⟨rfl,hf2⟩;obtain⟨n0,n1,n2,⟨z0,z1,z2⟩,nl⟩:=bV.out _ hf2;have bq:=hide hf2;clear hf2)
  refine bodyPost_ret (v:=vv z) (by simp[results,Tryz.results76,go_sem,n0,n1,n2]) rfl ⟨rfl,?_⟩
  exact(((((Fr.refl nothing w).alloc (.cells #[.int .i64 0,.int .i64 0,.string ⟨#[]⟩] 53)).trans bq.out).setCell (p:=⟨w.heap.size,0,none⟩) (.inr (Nat.le_refl _)) _).setCell (p:=⟨w.heap.size,1,none⟩) (.inr (Nat.le_refl _)) _).setCell (p:=⟨w.heap.size,2,none⟩) (.inr (Nat.le_refl _)) _
 rw[if_neg o3];have h1:(op==1)=false:=by simpa using o1
 have h2:(op==2)=false:=by simpa using o2
 have h3:(op==3)=false:=by simpa using o3
 have HC:=hide (fun w=>qK (decide (a<b)) w);generalize qI (decide (a<b))=z at HC
 go_enter Tryz.func76,Tryz.ntmps76
 go_wp2_with (go_at_call 74;refine(HC.out _).mono ?_;rintro e w2 ⟨rfl,hf2⟩;obtain⟨n0,n1,n2,⟨z0,z1,z2⟩,nl⟩:=bV.out _ hf2;have bq:=hide hf2;clear hf2)
 refine bodyPost_ret (v:=vv z) (by simp[results,Tryz.results76,go_sem,n0,n1,n2]) rfl ⟨rfl,?_⟩
 exact(((((Fr.refl nothing w).alloc (.cells #[.int .i64 0,.int .i64 0,.string ⟨#[]⟩] 53)).trans bq.out).setCell (p:=⟨w.heap.size,0,none⟩) (.inr (Nat.le_refl _)) _).setCell (p:=⟨w.heap.size,1,none⟩) (.inr (Nat.le_refl _)) _).setCell (p:=⟨w.heap.size,2,none⟩) (.inr (Nat.le_refl _)) _
end
section
theorem eqV (a b:Val) (w:World):(Op.equalIn 10000 53 (vv a) (vv b)).run Tryz.prog w=.ok (jG a b) w:=by
 simp only[go_sem,jG]
 by_cases h1:a.k=b.k<;>by_cases h2:a.n=b.n<;>by_cases h3:a.t=b.t<;>simp[h1,h2,h3,go_sem,gY]
theorem OI (op:Int) (a b:Val) (w:World) (ha:(a.k=1->a.t.length<=60)/\(a.k=0->-1073741824<=a.n/\a.n<=1073741824)) (hb:(b.k=1->b.t.length<=60)/\(b.k=0->-1073741824<=b.n/\b.n<=1073741824)):
 Calls Tryz.prog 63 #[.int .i64 op,vv a,vv b] w fun e w'=>e=.returned (.tuple #[vv (iN op a b).1,.int .i64 (iN op a b).2])/\Fr nothing w w':=by
 have bV:Hid (∀w',Fr nothing (((w.alloc (.cells #[.int .i64 a.k,.int .i64 a.n,.string (bs a.t)] 53)).alloc (.cells #[.int .i64 b.k,.int .i64 b.n,.string (bs b.t)] 53)).alloc (.cells #[.int .i64 0,.int .i64 0,.string ⟨#[]⟩] 53)) w'->w'.cell? ⟨w.heap.size+1+1,0,none⟩=some (.int .i64 0)/\w'.cell? ⟨w.heap.size+1+1,1,none⟩=some (.int .i64 0)/\w'.cell? ⟨w.heap.size+1+1,2,none⟩=some (.string ⟨#[]⟩)/\(w'.frozen? ⟨w.heap.size+1+1,0,none⟩=false/\w'.frozen? ⟨w.heap.size+1+1,1,none⟩=false/\w'.frozen? ⟨w.heap.size+1+1,2,none⟩=false)/\w.heap.size+1+1<w'.heap.size):=fun w' hf=>by
  have mA:=af (Fr.refl nothing (((w.alloc (.cells #[.int .i64 a.k,.int .i64 a.n,.string (bs a.t)] 53)).alloc (.cells #[.int .i64 b.k,.int .i64 b.n,.string (bs b.t)] 53)).alloc (.cells #[.int .i64 0,.int .i64 0,.string ⟨#[]⟩] 53))) id;have hz2:((w.alloc (.cells #[.int .i64 a.k,.int .i64 a.n,.string (bs a.t)] 53)).alloc (.cells #[.int .i64 b.k,.int .i64 b.n,.string (bs b.t)] 53)).heap.size=w.heap.size+1+1:=by simp
  rw[hz2] at mA;have hc:∀j,w'.cell? ⟨w.heap.size+1+1,j,none⟩=_:=fun j=>(hf.cell (p:=⟨w.heap.size+1+1,j,none⟩) mA.2.2 id).trans (mA.1 j)
  have hz:∀j,w'.frozen? ⟨w.heap.size+1+1,j,none⟩=_:=fun j=>(hf.frozen (p:=⟨w.heap.size+1+1,j,none⟩) mA.2.2 id).trans (mA.2.1 j)
  exact⟨hc 0,hc 1,hc 2,⟨hz 0,hz 1,hz 2⟩,Nat.lt_of_lt_of_le mA.2.2 hf.size⟩
 by_cases o0:op<1\/5<op
 ·have KP:iN op a b=(v0,1):=by unfold iN;rw[if_pos o0]
  rw[KP];clear KP bV
  go_enter Tryz.func63,Tryz.ntmps63
  go_wp2
  all_goals refine bodyPost_ret (v:=.tuple #[vv v0,.int .i64 1]) (by simp[results,Tryz.results63,go_sem,bs]) rfl ⟨rfl,?_⟩
  all_goals exact((((Fr.refl nothing w).alloc (.cells #[.int .i64 a.k,.int .i64 a.n,.string (bs a.t)] 53)).alloc (.cells #[.int .i64 b.k,.int .i64 b.n,.string (bs b.t)] 53)).alloc (.cells #[.int .i64 0,.int .i64 0,.string ⟨#[]⟩] 53))
 by_cases o5:op=5
 ·have KP:iN op a b=(qI (jG a b),0):=by unfold iN;rw[if_neg o0,if_pos o5]
  rw[KP];subst o5;have heq:=eqV a b;have HC:=hide (fun w=>qK (jG a b) w);generalize qI (jG a b)=z at HC;clear KP
  go_enter Tryz.func63,Tryz.ntmps63
  go_wp2_with (first|(go_at_call 74;refine(HC.out _).mono ?_;rintro e w2 ⟨rfl,hf2⟩;obtain⟨n0,n1,n2,⟨z0,z1,z2⟩,nl⟩:=bV.out _ hf2;have bq:=hide hf2;clear hf2)|fail)
  refine bodyPost_ret (v:=.tuple #[vv z,.int .i64 0]) (by simp[results,Tryz.results63,go_sem,n0,n1,n2]) rfl ⟨rfl,?_⟩
  exact(((((((Fr.refl nothing w).alloc (.cells #[.int .i64 a.k,.int .i64 a.n,.string (bs a.t)] 53)).alloc (.cells #[.int .i64 b.k,.int .i64 b.n,.string (bs b.t)] 53)).alloc (.cells #[.int .i64 0,.int .i64 0,.string ⟨#[]⟩] 53)).trans bq.out).setCell (p:=⟨w.heap.size+1+1,0,none⟩) (.inr (by show w.heap.size<=w.heap.size+1+1;omega)) _).setCell (p:=⟨w.heap.size+1+1,1,none⟩) (.inr (by show w.heap.size<=w.heap.size+1+1;omega)) _).setCell (p:=⟨w.heap.size+1+1,2,none⟩) (.inr (by show w.heap.size<=w.heap.size+1+1;omega)) _
 have o5b:(op==5)=false:=by simpa using o5
 obtain⟨ak,an,at'⟩:=a;obtain⟨bk,bn,bt⟩:=b;simp only at ha hb
 by_cases ht:ak=1/\bk=1
 ·obtain⟨rfl,rfl⟩:=ht;have KP:iN op ⟨1,an,at'⟩ ⟨1,bn,bt⟩=(if op=1 then ji (at'++bt) else if op=4 then qI (xM at' bt) else v0,if op=1\/op=4 then 0 else 11):=by
   unfold iN;rw[if_neg o0,if_neg o5,if_pos ⟨rfl,rfl⟩]
   by_cases h1:op=1
   ·simp[h1]
   ·by_cases h4:op=4
    ·simp[h4]
    ·simp[h1,h4]
  rw[KP];have HC:=hide (fun w=>Hz op at' bt w (ha.1 rfl) (hb.1 rfl));generalize(if op=1 then ji (at'++bt) else if op=4 then qI (xM at' bt) else v0)=z at HC;generalize(if op=1\/op=4 then(0:Int) else 11)=y at HC;clear KP
  go_enter Tryz.func63,Tryz.ntmps63
  go_wp2_with (first|(go_at_call 75;refine(HC.out _).mono ?_;rintro e w2 ⟨rfl,hf2⟩;obtain⟨n0,n1,n2,⟨z0,z1,z2⟩,nl⟩:=bV.out _ hf2;have bq:=hide hf2;clear hf2)|fail)
  refine bodyPost_ret (v:=.tuple #[vv z,.int .i64 y]) (by simp[results,Tryz.results63,go_sem,n0,n1,n2]) rfl ⟨rfl,?_⟩
  exact(((((((Fr.refl nothing w).alloc (.cells #[.int .i64 1,.int .i64 an,.string (bs at')] 53)).alloc (.cells #[.int .i64 1,.int .i64 bn,.string (bs bt)] 53)).alloc (.cells #[.int .i64 0,.int .i64 0,.string ⟨#[]⟩] 53)).trans bq.out).setCell (p:=⟨w.heap.size+1+1,0,none⟩) (.inr (by show w.heap.size<=w.heap.size+1+1;omega)) _).setCell (p:=⟨w.heap.size+1+1,1,none⟩) (.inr (by show w.heap.size<=w.heap.size+1+1;omega)) _).setCell (p:=⟨w.heap.size+1+1,2,none⟩) (.inr (by show w.heap.size<=w.heap.size+1+1;omega)) _
 by_cases hn:ak=0/\bk=0
 ·obtain⟨rfl,rfl⟩:=hn;have KP:iN op ⟨0,an,at'⟩ ⟨0,bn,bt⟩=(EB op an bn,0):=by
   unfold iN EB;rw[if_neg o0,if_neg o5,if_neg (by simp),if_neg (by simp)]
   by_cases h1:op=1
   ·simp[h1]
   ·by_cases h2:op=2
    ·simp[h2]
    ·by_cases h3:op=3
     ·simp[h3]
     ·simp[h1,h2,h3]
  rw[KP];have HC:=hide (fun w=>Mk op an bn w (ha.2 rfl) (hb.2 rfl));generalize EB op an bn=z at HC;clear KP
  go_enter Tryz.func63,Tryz.ntmps63
  go_wp2_with (first|(go_at_call 76;refine(HC.out _).mono ?_;rintro e w2 ⟨rfl,hf2⟩;obtain⟨n0,n1,n2,⟨z0,z1,z2⟩,nl⟩:=bV.out _ hf2;have bq:=hide hf2;clear hf2)|fail)
  refine bodyPost_ret (v:=.tuple #[vv z,.int .i64 0]) (by simp[results,Tryz.results63,go_sem,n0,n1,n2]) rfl ⟨rfl,?_⟩
  exact(((((((Fr.refl nothing w).alloc (.cells #[.int .i64 0,.int .i64 an,.string (bs at')] 53)).alloc (.cells #[.int .i64 0,.int .i64 bn,.string (bs bt)] 53)).alloc (.cells #[.int .i64 0,.int .i64 0,.string ⟨#[]⟩] 53)).trans bq.out).setCell (p:=⟨w.heap.size+1+1,0,none⟩) (.inr (by show w.heap.size<=w.heap.size+1+1;omega)) _).setCell (p:=⟨w.heap.size+1+1,1,none⟩) (.inr (by show w.heap.size<=w.heap.size+1+1;omega)) _).setCell (p:=⟨w.heap.size+1+1,2,none⟩) (.inr (by show w.heap.size<=w.heap.size+1+1;omega)) _
 have KP:iN op ⟨ak,an,at'⟩ ⟨bk,bn,bt⟩=(v0,11):=by
  unfold iN;rw[if_neg o0,if_neg o5,if_neg ht,if_pos (by simp only;omega)]
 rw[KP];clear KP bV
 go_enter Tryz.func63,Tryz.ntmps63
 go_wp2
 all_goals refine bodyPost_ret (v:=.tuple #[vv v0,.int .i64 11]) (by simp[results,Tryz.results63,go_sem,bs]) rfl ⟨rfl,?_⟩
 all_goals exact(((Fr.refl nothing w).alloc _).alloc _).alloc _
end
section
def MR (base mb:Nat) (x:Fx) (S:Nat->Prop) (w:World) (m':Mc) (ev:Ev) (e:Ending) (w':World):Prop:=
 e=.returned (je ev)/\(∃qf qh rp r,Mt base mb x qf qh rp r m' w'/\∀k,Ob qf qh rp r k->S k\/w.heap.size<=k)/\Fr (fun k=>S k\/k=mb) w w'
abbrev stk (m:Mc) (st:List Val):Mc:={m with f:={m.f with stack:=st}}
section
variable {base mb : Nat} {x : Fx} {qf qh : ai} {rp : List aQ} {r : aQ} {m : Mc} {w : World}
theorem Mt.keep {w':World} {S:Nat->Prop} (h:Mt base mb x qf qh rp r m w) (hf:Fr S w w') (hm:¬S mb) (hS:∀k,Ob qf qh rp r k->¬S k):Mt base mb x qf qh rp r m w':=
 h.fr' hf hm (fun b e=>hS b (.inl e)) (fun b e=>hS b (.inr (.inl e))) (fun b e=>hS b (.inr (.inr (.inl e)))) (fun b e=>hS b (.inr (.inr (.inr (.inl e))))) (fun q hq=>⟨fun b e=>hS b (.inr (.inr (.inr (.inr ⟨q,hq,.inl e⟩)))),fun b e=>hS b (.inr (.inr (.inr (.inr ⟨q,hq,.inr e⟩))))⟩)
theorem MR.fin {S:Nat->Prop} {wA w6:World} {m':Mc} {ev:Ev} {AB uu:ai} {rp':List aQ} {r':aQ} (_hb:base<=w.heap.size) (hml:mb<w.heap.size) (qL:Fr nothing w wA) (hF:Fr (fun k=>S k\/k=mb) wA w6) (hM:Mt base mb x AB uu rp' r' m' w6) (hO:∀k,Ob AB uu rp' r' k->S k\/w.heap.size<k) (hS:∀k,S k->k<w.heap.size) (u0 u1 u2:Value):
 MR base mb x S w m' ev (.returned (je ev)) (((w6.setCell ⟨w.heap.size,0,none⟩ u0).setCell ⟨w.heap.size,1,none⟩ u1).setCell ⟨w.heap.size,2,none⟩ u2):=by
 have fK:Fr (fun k=>k=w.heap.size) w6 (((w6.setCell ⟨w.heap.size,0,none⟩ u0).setCell ⟨w.heap.size,1,none⟩ u1).setCell ⟨w.heap.size,2,none⟩ u2):=
  (((Fr.refl (fun k=>k=w.heap.size) w6).setCell (p:=⟨w.heap.size,0,none⟩) (.inl rfl) u0).setCell (p:=⟨w.heap.size,1,none⟩) (.inl rfl) u1).setCell (p:=⟨w.heap.size,2,none⟩) (.inl rfl) u2
 refine⟨rfl,⟨AB,uu,rp',r',hM.keep fK (by omega) (fun k hk e=>?_),fun k hk=>?_⟩,((qL.mono (fun _ _ e=>e.elim)).trans hF).then fK (fun k hk e=>absurd e (by omega))⟩
 ·rcases hO k hk with e2|e2
  ·have:=hS k e2;omega
  ·omega
 ·rcases hO k hk with e2|e2
  ·exact .inl e2
  ·exact .inr (by omega)
theorem OJ (h:Mt base mb x qf qh rp r m w) (hl:rp.length<=1000) {st:List Val} {a b:Val} (op:Int) (hst:m.f.stack=st++ [a,b]) (hs:st.length<=1000) (ha:(a.k=1->a.t.length<=60)/\(a.k=0->-1073741824<=a.n/\a.n<=1073741824)) (hb:(b.k=1->b.t.length<=60)/\(b.k=0->-1073741824<=b.n/\b.n<=1073741824)):
 Calls Tryz.prog 41 #[.pointer (some ⟨mb,0,none⟩),.int .i64 op] w (MR base mb x (Ob qf qh rp r) w (if(iN op a b).2≠0 then stk m st else stk m (st++ [(iN op a b).1])) (if(iN op a b).2≠0 then bQ (iN op a b).2 else dB)):=by
 have FA:Fr nothing w (w.alloc (.cells #[.int .i64 0,.string ⟨#[]⟩,.int .i64 0] 39)):=(Fr.refl _ _).alloc _;have mA:=af (Fr.refl nothing (w.alloc (.cells #[.int .i64 0,.string ⟨#[]⟩,.int .i64 0] 39))) id;have dF:∀k,Ob qf qh rp r k->k<w.heap.size:=fun k hk=>(h.ob hk).2
 have hnb:¬Ob qf qh rp r w.heap.size:=fun e=>by have:=dF _ e;omega
 obtain⟨wA,iU⟩:∃y,y=w.alloc (.cells #[.int .i64 0,.string ⟨#[]⟩,.int .i64 0] 39):=⟨_,rfl⟩
 rw[<-iU] at FA mA;have bV:Hid (∀w',Fr (Ob qf qh rp r) wA w'->w'.cell? ⟨w.heap.size,0,none⟩=some (.int .i64 0)/\w'.cell? ⟨w.heap.size,1,none⟩=some (.string ⟨#[]⟩)/\w'.cell? ⟨w.heap.size,2,none⟩=some (.int .i64 0)/\(w'.frozen? ⟨w.heap.size,0,none⟩=false/\w'.frozen? ⟨w.heap.size,1,none⟩=false/\w'.frozen? ⟨w.heap.size,2,none⟩=false)/\w.heap.size<w'.heap.size):=fun w' hf=>by
  have hc:∀j,w'.cell? ⟨w.heap.size,j,none⟩=_:=fun j=>(hf.cell (p:=⟨w.heap.size,j,none⟩) mA.2.2 hnb).trans (mA.1 j)
  have hz:∀j,w'.frozen? ⟨w.heap.size,j,none⟩=_:=fun j=>(hf.frozen (p:=⟨w.heap.size,j,none⟩) mA.2.2 hnb).trans (mA.2.1 j)
  exact⟨hc 0,hc 1,hc 2,⟨hz 0,hz 1,hz 2⟩,Nat.lt_of_lt_of_le mA.2.2 hf.size⟩
 have H0:=hide (h.new FA);have dL:=hide FA;have hst':m.f.stack=(st++ [a])++ [b]:=by rw[hst];simp
 have pY:=hide (dM H0.out hl hst' (by simp;omega));have zA:wA.heap.size=w.heap.size+1:=by rw[iU];simp
 have pQ:=iU.symm;have HTC:=hide (fun w=>OI op a b w ha hb);obtain⟨tv,te,htc⟩:∃tv te,iN op a b=(tv,te):=⟨_,_,rfl⟩
 rw[htc] at HTC⊢;simp only at HTC⊢;have HH:=hide h;clear h FA mA iU htc
 by_cases ht:te=0
 case neg=>
  rw[if_pos ht,if_pos ht];have htb:(te !=0)=true:=by simpa using ht
  go_enter Tryz.func41,Tryz.ntmps41
  go_wp2_with (first
   |(go_at_call 17;refine(jK te _).mono ?_;rintro e w6 ⟨rfl,aR⟩;have bg:=hide ((aX.out.alloc (.cells #[.int .i64 tv.k,.int .i64 tv.n,.string (bs tv.t)] 53)).trans (aR.mono (fun _ _ e=>e.elim)));have gI:=hide ((iV.out.new ((Fr.refl _ _).alloc (.cells #[.int .i64 tv.k,.int .i64 tv.n,.string (bs tv.t)] 53))).new aR);obtain⟨n0,n1,n2,⟨z0,z1,z2⟩,nl⟩:=bV.out w6 bg.out;clear aR)
   |(go_at_call 63;refine(HTC.out _).mono ?_;rintro e w5 ⟨rfl,cK⟩;have aX:=hide (((dX.out.alloc (.cells #[.int .i64 b.k,.int .i64 b.n,.string (bs b.t)] 53)).alloc (.cells #[.int .i64 a.k,.int .i64 a.n,.string (bs a.t)] 53)).trans (cK.mono (fun _ _ e=>e.elim)));have iV:=hide ((mF.out.new (((Fr.refl _ _).alloc (.cells #[.int .i64 b.k,.int .i64 b.n,.string (bs b.t)] 53)).alloc (.cells #[.int .i64 a.k,.int .i64 a.n,.string (bs a.t)] 53))).new cK);clear cK)
   |(go_at_call 40;refine(dM EC.out hl (st:=st) (v:=a) rfl (by omega)).mono ?_;rintro e w3 ⟨rfl,hM2,eG,hf3⟩;have mF:=hide hM2;have dX:=hide (bq.out.trans (hf3.mono (fun k _ hk=>oH.out k hk)));have fM:=hide (fun k hk=>oH.out k (eG k hk));obtain⟨p0,p1,p2,⟨y0,y1,y2⟩,pl⟩:=bV.out w3 dX.out;clear hM2 hf3 eG)
   |(go_at_call 40;refine pY.out.mono ?_;rintro e w2 ⟨rfl,hM1,oI,hf2⟩;have EC:=hide hM1;have oH:=hide oI;have bq:=hide hf2;clear hM1 oI hf2))
  refine bodyPost_ret (v:=je (bQ te)) (by simp[results,Tryz.results41,go_sem,n0,n1,n2]) rfl ?_
  exact MR.fin HH.out.bl HH.out.ml dL.out (bg.out.mono (fun k _ e=> .inl e)) gI.out (fun k hk=> .inl (fM.out k hk)) dF _ _ _
 have ht':te=0:=ht;subst ht';rw[if_neg (by simp),if_neg (by simp)]
 go_enter Tryz.func41,Tryz.ntmps41
 go_wp2_with (first
  |(go_at_call 27;refine(fC (iV.out.new ((Fr.refl _ _).alloc (.cells #[.int .i64 tv.k,.int .i64 tv.n,.string (bs tv.t)] 53))) hl (by show st.length<=100000;omega) tv).mono ?_;rintro e w6 ⟨rfl,⟨q',fD,iW⟩,aR⟩;have bg:=hide ((aX.out.alloc (.cells #[.int .i64 tv.k,.int .i64 tv.n,.string (bs tv.t)] 53)).trans (aR.mono (fun k _ e=>fM.out k e)));have gI:=hide fD;have xS:=hide iW;have oJ:=aX.out.size;obtain⟨n0,n1,n2,⟨z0,z1,z2⟩,nl⟩:=bV.out w6 bg.out;clear aR fD iW)
  |(go_at_call 63;refine(HTC.out _).mono ?_;rintro e w5 ⟨rfl,cK⟩;have aX:=hide (((dX.out.alloc (.cells #[.int .i64 b.k,.int .i64 b.n,.string (bs b.t)] 53)).alloc (.cells #[.int .i64 a.k,.int .i64 a.n,.string (bs a.t)] 53)).trans (cK.mono (fun _ _ e=>e.elim)));have iV:=hide ((mF.out.new (((Fr.refl _ _).alloc (.cells #[.int .i64 b.k,.int .i64 b.n,.string (bs b.t)] 53)).alloc (.cells #[.int .i64 a.k,.int .i64 a.n,.string (bs a.t)] 53))).new cK);clear cK)
  |(go_at_call 40;refine(dM EC.out hl (st:=st) (v:=a) rfl (by omega)).mono ?_;rintro e w3 ⟨rfl,hM2,eG,hf3⟩;have mF:=hide hM2;have dX:=hide (bq.out.trans (hf3.mono (fun k _ hk=>oH.out k hk)));have fM:=hide (fun k hk=>oH.out k (eG k hk));obtain⟨p0,p1,p2,⟨y0,y1,y2⟩,pl⟩:=bV.out w3 dX.out;clear hM2 hf3 eG)
  |(go_at_call 40;refine pY.out.mono ?_;rintro e w2 ⟨rfl,hM1,oI,hf2⟩;have EC:=hide hM1;have oH:=hide oI;have bq:=hide hf2;clear hM1 oI hf2))
 refine bodyPost_ret (v:=je dB) (by simp[results,Tryz.results41,go_sem,n0,n1,n2,bs]) rfl ?_
 have mG:(w5.alloc (.cells #[.int .i64 tv.k,.int .i64 tv.n,.string (bs tv.t)] 53)).heap.size=w5.heap.size+1:=by simp
 exact MR.fin HH.out.bl HH.out.ml dL.out (bg.out.mono (fun k _ e=> .inl e)) gI.out (fun k hk=>(xS.out k hk).imp (fM.out k) (fun e=>by omega)) dF _ _ _
end
end
section
section
variable {base mb : Nat} {x : Fx} {qf qh : ai} {rp : List aQ} {r : aQ} {m : Mc} {w : World}
theorem Mt.fue (h:Mt base mb x qf qh rp r m w) (z:Int):Mt base mb x qf qh rp r {m with fuel:=z} (w.setCell ⟨mb,6,none⟩ (.int .i64 z))/\Fr (fun k=>k=mb) w (w.setCell ⟨mb,6,none⟩ (.int .i64 z)):=by
 have hF:Fr (fun k=>k=mb) w (w.setCell ⟨mb,6,none⟩ (.int .i64 z)):=(Fr.refl (fun k=>k=mb) w).setCell (p:=⟨mb,6,none⟩) (.inl rfl) _;have ho:∀i,i≠6->(w.setCell ⟨mb,6,none⟩ (.int .i64 z)).cell? ⟨mb,i,none⟩=w.cell? ⟨mb,i,none⟩:=fun i hi=>World.cell?_setCell_other w ⟨mb,6,none⟩ ⟨mb,i,none⟩ _ (by simp only[ne_eq,Addr.mk.injEq,true_and,and_true];exact fun e=>hi e.symm)
 have hN:∀(q:ai),(∀b,q.ob=some b->Ob qf qh rp r b)->∀b,q.ob=some b->¬b=mb:=fun q hq b e e2=>h.nm b (hq b e) e2
 exact⟨⟨(ho 0 (by decide)).trans h.c0,(ho 1 (by decide)).trans h.c1,(ho 2 (by decide)).trans h.c2,(ho 3 (by decide)).trans h.c3,(ho 4 (by decide)).trans h.c4,(ho 5 (by decide)).trans h.c5,(World.cell?_setCell_same _ _ _ h.c6),(ho 7 (by decide)).trans h.c7,(ho 8 (by decide)).trans h.c8,(ho 9 (by decide)).trans h.c9,(ho 10 (by decide)).trans h.c10,(ho 11 (by decide)).trans h.c11,(ho 12 (by decide)).trans h.c12,fun i=>by rw[World.frozen?_setCell];exact h.z i,Nat.lt_of_lt_of_le h.ml hF.size,Nat.le_trans h.bl hF.size,h.fr.fr hF (hN _ (fun b e=> .inl e)),h.lp,fun i q g e1 e2=>(h.ep i q g e1 e2).fr hF (hN _ (fun b e=> .inr (.inr (.inr (.inr ⟨q,List.mem_of_getElem? e1,.inl e⟩))))) (hN _ (fun b e=> .inr (.inr (.inr (.inr ⟨q,List.mem_of_getElem? e1,.inr e⟩))))),h.et.fr hF (hN _ (fun b e=> .inr (.inr (.inl e)))) (hN _ (fun b e=> .inr (.inr (.inr (.inl e))))),h.hp.fr hF (hN _ (fun b e=> .inr (.inl e))),h.Bz,h.Az,h.De,h.BA,h.Ae,h.Hq,h.AA,h.nm⟩,hF⟩
theorem Mt.cel (h:Mt base mb x qf qh rp r m w) (z:Int):Mt base mb x qf qh rp r {m with cells:=z} (w.setCell ⟨mb,7,none⟩ (.int .i64 z))/\Fr (fun k=>k=mb) w (w.setCell ⟨mb,7,none⟩ (.int .i64 z)):=by
 have hF:Fr (fun k=>k=mb) w (w.setCell ⟨mb,7,none⟩ (.int .i64 z)):=(Fr.refl (fun k=>k=mb) w).setCell (p:=⟨mb,7,none⟩) (.inl rfl) _;have ho:∀i,i≠7->(w.setCell ⟨mb,7,none⟩ (.int .i64 z)).cell? ⟨mb,i,none⟩=w.cell? ⟨mb,i,none⟩:=fun i hi=>World.cell?_setCell_other w ⟨mb,7,none⟩ ⟨mb,i,none⟩ _ (by simp only[ne_eq,Addr.mk.injEq,true_and,and_true];exact fun e=>hi e.symm)
 have hN:∀(q:ai),(∀b,q.ob=some b->Ob qf qh rp r b)->∀b,q.ob=some b->¬b=mb:=fun q hq b e e2=>h.nm b (hq b e) e2
 exact⟨⟨(ho 0 (by decide)).trans h.c0,(ho 1 (by decide)).trans h.c1,(ho 2 (by decide)).trans h.c2,(ho 3 (by decide)).trans h.c3,(ho 4 (by decide)).trans h.c4,(ho 5 (by decide)).trans h.c5,(ho 6 (by decide)).trans h.c6,(World.cell?_setCell_same _ _ _ h.c7),(ho 8 (by decide)).trans h.c8,(ho 9 (by decide)).trans h.c9,(ho 10 (by decide)).trans h.c10,(ho 11 (by decide)).trans h.c11,(ho 12 (by decide)).trans h.c12,fun i=>by rw[World.frozen?_setCell];exact h.z i,Nat.lt_of_lt_of_le h.ml hF.size,Nat.le_trans h.bl hF.size,h.fr.fr hF (hN _ (fun b e=> .inl e)),h.lp,fun i q g e1 e2=>(h.ep i q g e1 e2).fr hF (hN _ (fun b e=> .inr (.inr (.inr (.inr ⟨q,List.mem_of_getElem? e1,.inl e⟩))))) (hN _ (fun b e=> .inr (.inr (.inr (.inr ⟨q,List.mem_of_getElem? e1,.inr e⟩))))),h.et.fr hF (hN _ (fun b e=> .inr (.inr (.inl e)))) (hN _ (fun b e=> .inr (.inr (.inr (.inl e))))),h.hp.fr hF (hN _ (fun b e=> .inr (.inl e))),h.Bz,h.Az,h.De,h.BA,h.Ae,h.Hq,h.AA,h.nm⟩,hF⟩
theorem Mt.hop (h:Mt base mb x qf qh rp r m w) (z:Int):Mt base mb x qf qh rp r {m with hops:=z} (w.setCell ⟨mb,8,none⟩ (.int .i64 z))/\Fr (fun k=>k=mb) w (w.setCell ⟨mb,8,none⟩ (.int .i64 z)):=by
 have hF:Fr (fun k=>k=mb) w (w.setCell ⟨mb,8,none⟩ (.int .i64 z)):=(Fr.refl (fun k=>k=mb) w).setCell (p:=⟨mb,8,none⟩) (.inl rfl) _;have ho:∀i,i≠8->(w.setCell ⟨mb,8,none⟩ (.int .i64 z)).cell? ⟨mb,i,none⟩=w.cell? ⟨mb,i,none⟩:=fun i hi=>World.cell?_setCell_other w ⟨mb,8,none⟩ ⟨mb,i,none⟩ _ (by simp only[ne_eq,Addr.mk.injEq,true_and,and_true];exact fun e=>hi e.symm)
 have hN:∀(q:ai),(∀b,q.ob=some b->Ob qf qh rp r b)->∀b,q.ob=some b->¬b=mb:=fun q hq b e e2=>h.nm b (hq b e) e2
 exact⟨⟨(ho 0 (by decide)).trans h.c0,(ho 1 (by decide)).trans h.c1,(ho 2 (by decide)).trans h.c2,(ho 3 (by decide)).trans h.c3,(ho 4 (by decide)).trans h.c4,(ho 5 (by decide)).trans h.c5,(ho 6 (by decide)).trans h.c6,(ho 7 (by decide)).trans h.c7,(World.cell?_setCell_same _ _ _ h.c8),(ho 9 (by decide)).trans h.c9,(ho 10 (by decide)).trans h.c10,(ho 11 (by decide)).trans h.c11,(ho 12 (by decide)).trans h.c12,fun i=>by rw[World.frozen?_setCell];exact h.z i,Nat.lt_of_lt_of_le h.ml hF.size,Nat.le_trans h.bl hF.size,h.fr.fr hF (hN _ (fun b e=> .inl e)),h.lp,fun i q g e1 e2=>(h.ep i q g e1 e2).fr hF (hN _ (fun b e=> .inr (.inr (.inr (.inr ⟨q,List.mem_of_getElem? e1,.inl e⟩))))) (hN _ (fun b e=> .inr (.inr (.inr (.inr ⟨q,List.mem_of_getElem? e1,.inr e⟩))))),h.et.fr hF (hN _ (fun b e=> .inr (.inr (.inl e)))) (hN _ (fun b e=> .inr (.inr (.inr (.inl e))))),h.hp.fr hF (hN _ (fun b e=> .inr (.inl e))),h.Bz,h.Az,h.De,h.BA,h.Ae,h.Hq,h.AA,h.nm⟩,hF⟩
end
end
section
section
variable {base mb : Nat} {x : Fx} {qf qh : ai} {rp : List aQ} {r : aQ} {m : Mc} {w : World}
theorem MR.more {S:Nat->Prop} {m':Mc} {ev:Ev} {e:Ending} {w':World} (h:MR base mb x S w m' ev e w') (o:Obj):MR base mb x S w m' ev e (w'.alloc o):=by
 obtain⟨h1,⟨a,b,c,d,h2,h3⟩,h4⟩:=h;exact⟨h1,⟨a,b,c,d,h2.new ((Fr.refl _ _).alloc o),h3⟩,h4.alloc o⟩
theorem H7 (h:Mt base mb x qf qh rp r m w) (hl:rp.length<=1000) {st:List Val} {v:Val} (hst:m.f.stack=st++ [v]) (hs:st.length<=1000) (hh:-1000<=m.hops/\m.hops<=1000):
 Calls Tryz.prog 46 #[.pointer (some ⟨mb,0,none⟩)] w (MR base mb x (Ob qf qh rp r) w (if v.k≠1 then stk m st else if 0<m.hops then{stk m st with hops:=m.hops-1} else stk m (st++ [v0])) (if v.k≠1 then bQ 11 else if 0<m.hops then⟨3,v.t,0⟩ else dB)):=by
 have FA:Fr nothing w (w.alloc (.cells #[.int .i64 0,.string ⟨#[]⟩,.int .i64 0] 39)):=(Fr.refl _ _).alloc _;have mA:=af (Fr.refl nothing (w.alloc (.cells #[.int .i64 0,.string ⟨#[]⟩,.int .i64 0] 39))) id;have dF:∀k,Ob qf qh rp r k->k<w.heap.size:=fun k hk=>(h.ob hk).2
 have hnb:¬(Ob qf qh rp r w.heap.size\/w.heap.size=mb):=fun e=>by
  rcases e with e|e
  ·have:=dF _ e;omega
  ·have:=h.mw;omega
 obtain⟨wA,iU⟩:∃y,y=w.alloc (.cells #[.int .i64 0,.string ⟨#[]⟩,.int .i64 0] 39):=⟨_,rfl⟩
 rw[<-iU] at FA mA;have bV:Hid (∀w',Fr (fun k=>Ob qf qh rp r k\/k=mb) wA w'->w'.cell? ⟨w.heap.size,0,none⟩=some (.int .i64 0)/\w'.cell? ⟨w.heap.size,1,none⟩=some (.string ⟨#[]⟩)/\w'.cell? ⟨w.heap.size,2,none⟩=some (.int .i64 0)/\(w'.frozen? ⟨w.heap.size,0,none⟩=false/\w'.frozen? ⟨w.heap.size,1,none⟩=false/\w'.frozen? ⟨w.heap.size,2,none⟩=false)/\w.heap.size<w'.heap.size):=fun w' hf=>by
  have hc:∀j,w'.cell? ⟨w.heap.size,j,none⟩=_:=fun j=>(hf.cell (p:=⟨w.heap.size,j,none⟩) mA.2.2 hnb).trans (mA.1 j)
  have hz:∀j,w'.frozen? ⟨w.heap.size,j,none⟩=_:=fun j=>(hf.frozen (p:=⟨w.heap.size,j,none⟩) mA.2.2 hnb).trans (mA.2.1 j)
  exact⟨hc 0,hc 1,hc 2,⟨hz 0,hz 1,hz 2⟩,Nat.lt_of_lt_of_le mA.2.2 hf.size⟩
 have H0:=hide (h.new FA);have dL:=hide FA;have zA:wA.heap.size=w.heap.size+1:=by rw[iU];simp
 have pY:=hide (dM H0.out hl hst (by omega));have pQ:=iU.symm;have HH:=hide h;clear h FA mA iU
 by_cases hk:v.k=1
 case neg=>
  rw[if_pos hk,if_pos hk];have hkb:(v.k !=1)=true:=by simpa using hk
  go_enter Tryz.func46,Tryz.ntmps46
  go_wp2_with (first
   |(go_at_call 17;refine(jK 11 _).mono ?_;rintro e w6 ⟨rfl,aR⟩;have bg:=hide ((dX.out.alloc (.cells #[.int .i64 v.k,.int .i64 v.n,.string (bs v.t)] 53)).trans (aR.mono (fun _ _ e=>e.elim)));have gI:=hide ((mF.out.new ((Fr.refl _ _).alloc (.cells #[.int .i64 v.k,.int .i64 v.n,.string (bs v.t)] 53))).new aR);obtain⟨n0,n1,n2,⟨z0,z1,z2⟩,nl⟩:=bV.out w6 bg.out;clear aR)
   |(go_at_call 40;refine pY.out.mono ?_;rintro e w3 ⟨rfl,hM2,eG,hf3⟩;have mF:=hide hM2;have fM:=hide eG;have dX:Hid (Fr (fun k=>Ob qf qh rp r k\/k=mb) wA w3):=hf3.mono (fun k _ e=> .inl e);obtain⟨p0,p1,p2,⟨y0,y1,y2⟩,pl⟩:=bV.out w3 dX.out;have c8:=hM2.c8;have c5:=hM2.c5;have cz:=hM2.z 8;have cm:=hM2.mw;clear hM2 eG hf3))
  refine bodyPost_ret (v:=je (bQ 11)) (by simp[results,Tryz.results46,go_sem,n0,n1,n2]) rfl ?_
  exact MR.fin HH.out.bl HH.out.ml dL.out bg.out gI.out (fun k hk=> .inl (fM.out k hk)) dF _ _ _
 have hkb:(v.k !=1)=false:=by simpa using hk
 have hk':¬v.k≠1:=fun e=>e hk;rw[if_neg hk',if_neg hk'];obtain⟨vk,vn,vt⟩:=v;simp only at hk;subst hk
 by_cases hp:0<m.hops
 case neg=>
  rw[if_neg hp,if_neg hp];have hpb:m.hops<=0:=by omega
  have nG:=hide (fun w=>ng 0 w);have hi0:(⟨0,0,[]⟩:Val)=v0:=rfl;rw[hi0] at nG
  go_enter Tryz.func46,Tryz.ntmps46
  go_wp2_with (first
   |(go_at_call 27;refine(fC iV.out hl (by show st.length<=100000;omega) v0).mono ?_;rintro e w6 ⟨rfl,⟨q',fD,iW⟩,aR⟩;have bg:=hide (aX.out.trans (aR.mono (fun k _ e=> .inl (fM.out k e))));have gI:=hide fD;have xS:=hide iW;have oJ:=aX.out.size;obtain⟨n0,n1,n2,⟨z0,z1,z2⟩,nl⟩:=bV.out w6 bg.out;clear aR fD iW)
   |(go_at_call 28;refine(nG.out _).mono ?_;rintro e w5 ⟨rfl,cK⟩;have aX:=hide ((dX.out.alloc (.cells #[.int .i64 1,.int .i64 vn,.string (bs vt)] 53)).trans (cK.mono (fun _ _ e=>e.elim)));have iV:=hide ((mF.out.new ((Fr.refl _ _).alloc (.cells #[.int .i64 1,.int .i64 vn,.string (bs vt)] 53))).new cK);clear cK)
   |(go_at_call 40;refine pY.out.mono ?_;rintro e w3 ⟨rfl,hM2,eG,hf3⟩;have mF:=hide hM2;have fM:=hide eG;have dX:Hid (Fr (fun k=>Ob qf qh rp r k\/k=mb) wA w3):=hf3.mono (fun k _ e=> .inl e);obtain⟨p0,p1,p2,⟨y0,y1,y2⟩,pl⟩:=bV.out w3 dX.out;have c8:=hM2.c8;have c5:=hM2.c5;have cz:=hM2.z 8;have cm:=hM2.mw;clear hM2 eG hf3))
  refine bodyPost_ret (v:=je dB) (by simp[results,Tryz.results46,go_sem,n0,n1,n2,bs]) rfl ?_
  exact MR.fin HH.out.bl HH.out.ml dL.out bg.out gI.out (fun k hk=>(xS.out k hk).imp (fM.out k) (fun e=>by omega)) dF _ _ _
 rw[if_pos hp,if_pos hp];have hpb:¬m.hops<=0:=by omega
 go_enter Tryz.func46,Tryz.ntmps46
 go_wp2_with (first
  |(go_at_call 40;refine pY.out.mono ?_;rintro e w3 ⟨rfl,hM2,eG,hf3⟩;have mF:=hide hM2;have fM:=hide eG;have dX:Hid (Fr (fun k=>Ob qf qh rp r k\/k=mb) wA w3):=hf3.mono (fun k _ e=> .inl e);obtain⟨p0,p1,p2,⟨y0,y1,y2⟩,pl⟩:=bV.out w3 dX.out;have c8:=hM2.c8;have c5:=hM2.c5;have cz:=hM2.z 8;have cm:=hM2.mw;clear hM2 eG hf3))
 have hHp:=mF.out.hop (m.hops-1);have fK:Fr (fun k=>Ob qf qh rp r k\/k=mb) wA (w3.setCell ⟨mb,8,none⟩ (.int .i64 (m.hops-1))):=dX.out.trans (hHp.2.mono (fun k _ e=> .inr e));obtain⟨n0,n1,n2,⟨z0,z1,z2⟩,nl⟩:=bV.out _ fK;have fD:=hHp.1;generalize w3.setCell ⟨mb,8,none⟩ (.int .i64 (m.hops-1))=w6 at*;refine bodyPost_ret (v:=je ⟨3,vt,0⟩) (by simp[results,Tryz.results46,go_sem,n0,n1,n2,nl]) rfl ?_
 exact(MR.fin HH.out.bl HH.out.ml dL.out fK fD (fun k hk=> .inl (fM.out k hk)) dF _ _ _).more _
end
end
end Go.Proofs.YtbcadjgpcfmkfaaGreatDoor
