/- Texts of ours, joined. -/
import Derived.Test.YtnijcolomoobnaaGreatDoorU04
import Derived.Test.YtnijcolomoobnaaGreatDoorU02
import Derived.Test.YtnijcolomoobnaaGreatDoorU05
import Derived.Deep.AppendLies
set_option linter.unusedVariables false
set_option linter.unusedSimpArgs false
set_option maxRecDepth 100000
set_option maxHeartbeats 16000000
namespace Go.Proofs.YtnijcolomoobnaaGreatDoor
section
open Go.RowKit
attribute [local go_sem ↓] Go.wp_at_zero Go.wp_at_succ
theorem Ey{B:Nat->Prop}{y:List UInt8}(hy:y.length<=9223372036854775807){v:V}{sl:Value}{w:World}(hv:IsW B w v sl)(h:v.k≠kdOf y∨bareB v=false) :
  Calls Tryz.prog 159 #[.agg #[iv v.k,iv v.n,bz v.t,sl],.string ⟨y.toArray⟩] w fun r w'=>r=.returned (.bool false)∧Below w.heap.size w w':=by
 obtain⟨ao,cap,rfl,hc1,hc2⟩:=hv.vs.slice;obtain⟨w0,hW,hb0,hsz,d0,d1,d2,d3⟩:=Aw w v (.slice ao v.l.length cap);have hK:=fun w=>Dr y hy w
 have hBr:∀w2,Below w0.heap.size w0 w2->Calls Tryz.prog 165 #[.agg #[iv v.k,iv v.n,bz v.t,.slice ao v.l.length cap]] w2 fun r w'=>r=.returned (.bool (bareB v))∧Below w2.heap.size w2 w':=fun w2 hb2=>Fm ((hv.below hb0).below hb2)
 clear hv;generalize kdOf y=z at *;by_cases hk:v.k=z
 ·have hbf:bareB v=false:=by
   rcases h with h | h
   ·exact absurd hk h
   ·exact h
  rw[hbf] at hBr;have hk':(v.k != z)=false:=by simp[hk]
  have hgb:w.heap.size<w0.heap.size:=by omega
  clear h hk hbf;go_enter Tryz.func159,Tryz.ntmps159;go_wp2_with fail;go_region_held3 (fun w'=>w'.cell? ⟨w.heap.size,0,none⟩=some (iv v.k)∧w'.cell? ⟨w.heap.size,1,none⟩=some (iv v.n)∧w'.cell? ⟨w.heap.size,2,none⟩=some (bz v.t)∧w'.cell? ⟨w.heap.size,3,none⟩=some (.slice ao v.l.length cap)) (go_keep)
   (first | (go_at_call 164;refine (hK _).mono ?_;rintro e w' ⟨rfl,rfl⟩) | (go_at_call 165;refine (hBr _ (Below.refl _ _).drew).mono ?_;rintro e w5 ⟨rfl,hb5⟩;replace hb5:=Ad hb5;obtain⟨f3,-⟩:=Ag hb5))
  all_goals
   go_wp2;go_ret;exact⟨rfl,hb0.trans (hb5.mono hb0.size)⟩
 ·have hk':(v.k != z)=true:=by simp[hk]
  clear h hBr;go_enter Tryz.func159,Tryz.ntmps159;go_wp2_with fail
  go_quiet ((go_at_call 164;exact Calls.quiet_of_same (hK _)))
  go_wp2;go_ret;exact⟨rfl,hb0.trans ((Af _ _).mono hb0.size)⟩
theorem Fi{B:Nat->Prop}{T:Ty}(hT:T.dp<=4){v:V}{sl:Value}{w:World}(hv:IsW B w v sl)(hk:v.k=kd T)(hbare:bareB v=true)
  (hlist:∀t,T=.list t->Ik B (tyT t) (shpB t)) (hmap:∀k t,T=.map k t->Ik B (keyT k) (shpB (Cd k))∧Ik B (tyT t) (shpB t)) :
  Calls Tryz.prog 159 #[.agg #[iv v.k,iv v.n,bz v.t,sl],.string ⟨(tyT T).toArray⟩] w fun r w'=>r=.returned (.bool (shpB T v))∧Below w.heap.size w w':=by
 have hlen:=Bh T;obtain⟨ao,cap,rfl,hc1,hc2⟩:=hv.vs.slice;obtain⟨w0,hW,hb0,hsz,d0,d1,d2,d3⟩:=Aw w v (.slice ao v.l.length cap);have hK:=fun w=>Dr (tyT T) (by omega) w
 have hkd:kdOf (tyT T)=kd T:=by unfold kdOf;rw[Cs hT]
 rw[hkd] at hK;have hBr:∀w2,Below w0.heap.size w0 w2->Calls Tryz.prog 165 #[.agg #[iv v.k,iv v.n,bz v.t,.slice ao v.l.length cap]] w2 fun r w'=>r=.returned (.bool true)∧Below w2.heap.size w2 w':=fun w2 hb2=>by
  have:=Fm ((hv.below hb0).below hb2);rw[hbare] at this;exact this
 have hk':(v.k != kd T)=false:=by simp[hk]
 have hgb:w.heap.size<w0.heap.size:=by omega
 have hL:∀w5 t,Below w0.heap.size w0 w5->T=.list t->Calls Tryz.prog 166 #[.slice ao v.l.length cap,.string ⟨(tyT T).toArray⟩] w5 fun r w'=>r=.returned (.bool (decide (v.l.length<=64) && v.l.all (shpB t)))∧Below w5.heap.size w5 w':=by
  intro w5 t hb5 e;have he:(elT (tyT T)).1=tyT t:=by unfold elT;rw[Cs hT,e]
  exact Kk (by rw[he];exact hlist t e) (by omega) ((hv.vs.below hb0).below hb5)
 have hM:∀w5 k t,Below w0.heap.size w0 w5->T=.map k t->Calls Tryz.prog 167 #[.slice ao v.l.length cap,.string ⟨(tyT T).toArray⟩] w5 fun r w'=>Bn (Fo (shpB (Cd k)) (shpB t) v.l) r∧Below w5.heap.size w5 w':=by
  intro w5 k t hb5 e;have he:mpT (tyT T)=(keyT k,tyT t,true):=by unfold mpT;rw[Cs hT,e]
  exact Lu (by rw[he];exact (hmap k t e).1) (by rw[he];exact (hmap k t e).2) (by omega) ((hv.vs.below hb0).below hb5)
 have HK:Hid (v.k=kd T):=hk;clear hv hlist hmap hkd hlen hk;go_enter Tryz.func159,Tryz.ntmps159;go_wp2_with fail;go_region_held3 (fun w'=>w'.cell? ⟨w.heap.size,0,none⟩=some (iv v.k)∧w'.cell? ⟨w.heap.size,1,none⟩=some (iv v.n)∧w'.cell? ⟨w.heap.size,2,none⟩=some (bz v.t)∧w'.cell? ⟨w.heap.size,3,none⟩=some (.slice ao v.l.length cap)) (go_keep)
  (first | (go_at_call 164;refine (hK _).mono ?_;rintro e w' ⟨rfl,rfl⟩) | (go_at_call 165;refine (hBr _ (Below.refl _ _).drew).mono ?_;rintro e w5 ⟨rfl,hb5⟩;replace hb5:=Ad hb5;obtain⟨f3,-⟩:=Ag hb5))
 have hB5:Below w.heap.size w w5:=hb0.trans (hb5.mono hb0.size);have e0:w5.cell? ⟨w.heap.size,0,none⟩=some (iv v.k):=by rw[f3 _ _ hgb];exact d0
 have e1:w5.cell? ⟨w.heap.size,1,none⟩=some (iv v.n):=by rw[f3 _ _ hgb];exact d1
 have e2:w5.cell? ⟨w.heap.size,2,none⟩=some (bz v.t):=by rw[f3 _ _ hgb];exact d2
 have e3:w5.cell? ⟨w.heap.size,3,none⟩=some (.slice ao v.l.length cap):=by rw[f3 _ _ hgb];exact d3
 clear f3 d0 d1 d2 d3 hW hBr hK hk';have hk:v.k=kd T:=HK.out;clear HK;rcases T with _ | _ | _ | t | ⟨k,t⟩
 ·have hfin:Hid (shpB .int v=true):=Bf.2 (U2 hk hbare);replace hk:v.k=1:=hk;clear hL hM;go_wp2;go_ret;exact⟨ret_bool hfin.out.symm,hB5⟩
 ·have hfin:Hid (shpB .bool v=true↔(v.n=0∨v.n=1)):=Bf.trans (Ru hk hbare);replace hk:v.k=2:=hk;clear hL hM;by_cases n0:v.n=0
  ·have n0':(v.n == 0)=true:=by simp[n0]
   go_wp2;go_ret;exact⟨ret_bool (hfin.out.2 (Or.inl n0)).symm,hB5⟩
  ·have n0':(v.n == 0)=false:=by simp[n0]
   have hfin2:Hid (shpB .bool v=(v.n == 1)):=by
    show _=_;rw[Bool.eq_iff_iff,hfin.out];simp[n0]
   go_wp2;go_ret;exact⟨ret_bool hfin2.out.symm,hB5⟩
 ·have hfin:Hid (shpB .text v=decide (v.t.length<=256)):=by
   show _=_;rw[Bool.eq_iff_iff,Bf,Rv hk hbare];simp
  replace hk:v.k=3:=hk;clear hL hM;go_wp2;go_ret;exact⟨ret_bool (by rw[hfin.out,decide_eq_decide];omega),hB5⟩
 ·have hfin:Hid (shpB (.list t) v=(decide (v.l.length<=64) && v.l.all (shpB t))):=by
   show _=_;rw[Bool.eq_iff_iff,Bf,Rx hk hbare];simp[Bf]
  replace hk:v.k=4:=hk;replace hL:=hL w5 t hb5 rfl;clear hM;generalize tyT (.list t)=y at *;go_wp2_with fail;refine hL.mono ?_;rintro e w6 ⟨rfl,hb6⟩;clear hL;go_wp2;go_ret;exact⟨ret_bool hfin.out.symm,hB5.trans (hb6.mono hB5.size)⟩
 ·have hfin:Hid (∀b:Bool,(b=true↔Fo (shpB (Cd k)) (shpB t) v.l)->shpB (.map k t) v=b):=by
   intro b hb;rw[Bool.eq_iff_iff,hb,Bf,O3 hk hbare];unfold Fo;simp only[Bf,Li]
  replace hk:v.k=5:=hk;replace hM:=hM w5 k t hb5 rfl;clear hL;generalize tyT (.map k t)=y at *;go_wp2_with fail;refine hM.mono ?_;rintro e w6 ⟨⟨b,rfl,hb⟩,hb6⟩;clear hM;have hfin2:Hid (shpB (.map k t) v=b):=hfin.out b hb;clear hb hfin;go_wp2;go_ret;exact⟨ret_bool hfin2.out.symm,hB5.trans (hb6.mono hB5.size)⟩
theorem Sn(B:Nat->Prop):∀(T:Ty),T.dp<=4->Ik B (tyT T) (shpB T)
 | T,hT=>by
  have hkey:∀k:Bool,Ik B (keyT k) (shpB (Cd k)):=by
   intro k v sl w hv;rw[<-keyTy_T];have hd:(Cd k).dp<=4:=by rw[Lh];omega
   have hlen:=Bh (Cd k);by_cases hn:v.k≠kd (Cd k)∨bareB v=false
   ·have hf:shpB (Cd k) v=false:=Bb.2 (fun h=>by
     rcases hn with hn | hn
     ·exact hn h.kind
     ·rw[h.bare] at hn;cases hn)
    rw[hf];exact Ey (by omega) hv (by unfold kdOf;rw[Cs hd];exact hn)
   ·have hn1:v.k=kd (Cd k):=Decidable.not_not.1 fun h=>hn (Or.inl h)
    have hn2:bareB v=true:=by
     rcases h:bareB v with _ | _
     ·exact absurd (Or.inr h) hn
     ·rfl
    exact Fi hd hv hn1 hn2 (fun t e=>by cases k <;> cases e) (fun k' t e=>by cases k <;> cases e)
  intro v sl w hv;have hlen:=Bh T;by_cases hn:v.k≠kd T∨bareB v=false
  ·have hf:shpB T v=false:=Bb.2 (fun h=>by
    rcases hn with hn | hn
    ·exact hn h.kind
    ·rw[h.bare] at hn;cases hn)
   rw[hf];exact Ey (by omega) hv (by unfold kdOf;rw[Cs hT];exact hn)
  ·have hn1:v.k=kd T:=Decidable.not_not.1 fun h=>hn (Or.inl h)
   have hn2:bareB v=true:=by
    rcases h:bareB v with _ | _
    ·exact absurd (Or.inr h) hn
    ·rfl
   refine Fi hT hv hn1 hn2 (fun t e=>?_) (fun k t e=>⟨hkey k,?_⟩)
   ·subst e;exact Sn B t (by simp[Ty.dp] at hT;omega)
   ·subst e;exact Sn B t (by simp[Ty.dp] at hT;omega)
termination_by T=>T.dp
decreasing_by all_goals (subst e;simp[Ty.dp])
theorem Jj{B:Nat->Prop}{y:List UInt8}(hy:y.length<=9223372036854775807){v:V}{sl:Value}{w:World}(hv:IsW B w v sl)(hk:v.k=0)(hky:kdOf y=0)(hbare:bareB v=true) :
  Calls Tryz.prog 159 #[.agg #[iv v.k,iv v.n,bz v.t,sl],.string ⟨y.toArray⟩] w fun r w'=>r=.returned (.bool false)∧Below w.heap.size w w':=by
 obtain⟨ao,cap,rfl,hc1,hc2⟩:=hv.vs.slice;obtain⟨w0,hW,hb0,hsz,d0,d1,d2,d3⟩:=Aw w v (.slice ao v.l.length cap);have hK:=fun w=>Dr y hy w
 have hBr:∀w2,Below w0.heap.size w0 w2->Calls Tryz.prog 165 #[.agg #[iv v.k,iv v.n,bz v.t,.slice ao v.l.length cap]] w2 fun r w'=>r=.returned (.bool true)∧Below w2.heap.size w2 w':=fun w2 hb2=>by
  have:=Fm ((hv.below hb0).below hb2);rw[hbare] at this;exact this
 clear hv;rw[hky] at hK;have hk':(v.k != 0)=false:=by simp[hk]
 have HK:Hid (v.k=0):=hk;have hgb:w.heap.size<w0.heap.size:=by omega
 clear hky hk;go_enter Tryz.func159,Tryz.ntmps159;go_wp2_with fail;go_region_held3 (fun w'=>w'.cell? ⟨w.heap.size,0,none⟩=some (iv v.k)∧w'.cell? ⟨w.heap.size,1,none⟩=some (iv v.n)∧w'.cell? ⟨w.heap.size,2,none⟩=some (bz v.t)∧w'.cell? ⟨w.heap.size,3,none⟩=some (.slice ao v.l.length cap)) (go_keep)
  (first | (go_at_call 164;refine (hK _).mono ?_;rintro e w' ⟨rfl,rfl⟩) | (go_at_call 165;refine (hBr _ (Below.refl _ _).drew).mono ?_;rintro e w5 ⟨rfl,hb5⟩;replace hb5:=Ad hb5;obtain⟨f3,-⟩:=Ag hb5))
 have e0:w5.cell? ⟨w.heap.size,0,none⟩=some (iv v.k):=by rw[f3 _ _ hgb];exact d0
 clear f3 d0 d1 d2 d3 hW hBr hK hk';have hk:v.k=0:=HK.out;go_wp2;go_ret;exact⟨rfl,hb0.trans (hb5.mono hb0.size)⟩
theorem Km{B:Nat->Prop}{y:List UInt8}(hy:y.length<=9223372036854775807){v:V}{sl:Value}{w:World}(hv:IsW B w v sl) :
  Calls Tryz.prog 159 #[.agg #[iv v.k,iv v.n,bz v.t,sl],.string ⟨y.toArray⟩] w fun r w'=>r=.returned (.bool (shpS y v))∧Below w.heap.size w w':=by
 rcases h:tyOf y with _ | T
 ·have hs:shpS y v=false:=by unfold shpS;rw[h]
  have hk:kdOf y=0:=by unfold kdOf;rw[h]
  rw[hs];by_cases hn:v.k≠kdOf y∨bareB v=false
  ·exact Ey hy hv hn
  ·have hn1:v.k=kdOf y:=Decidable.not_not.1 fun h=>hn (Or.inl h)
   have hn2:bareB v=true:=by
    rcases h:bareB v with _ | _
    ·exact absurd (Or.inr h) hn
    ·rfl
   exact Jj hy hv (hn1.trans hk) hk hn2
 ·obtain⟨h1,h2⟩:=(B4 _ _).1 h;rw[<-h1,Kd h2];exact Sn B T h2 v sl w hv
theorem So{B:Nat->Prop}{y:List UInt8}(hy:y.length<=9223372036854775807){v:V}{sl:Value}{w:World}(hv:IsW B w v sl)(hw:wt v<=4611686018427387904) :
  Calls Tryz.prog 144 #[.agg #[iv v.k,iv v.n,bz v.t,sl],.string ⟨y.toArray⟩] w fun r w'=>r=.returned (.bool (fitS y v))∧Below w.heap.size w w':=by
 obtain⟨ao,cap,rfl,hc1,hc2⟩:=hv.vs.slice;obtain⟨w0,hW,hb0,hsz,d0,d1,d2,d3⟩:=Aw w v (.slice ao v.l.length cap);have hS:=Km hy (hv.below hb0);have hWt:∀w2,Below w0.heap.size w0 w2->Calls Tryz.prog 130 #[.agg #[iv v.k,iv v.n,bz v.t,.slice ao v.l.length cap]] w2 fun r w'=>r=.returned (iv (wt v))∧Below w2.heap.size w2 w':=fun w2 hb2=>Il _ v _ B w2 (Nat.lt_succ_self _) hw ((hv.below hb0).below hb2)
 have hfin:Hid (fitS y v=(shpS y v && decide (wt v<=16384))):=rfl;have hgb:w.heap.size<w0.heap.size:=by omega
 clear hv;generalize shpS y v=s at *;generalize wt v=n at *;cases s
 ·go_enter Tryz.func144,Tryz.ntmps144;go_wp2_with fail;refine hS.mono ?_;rintro e w5 ⟨rfl,hb5⟩;go_wp2;go_ret;exact⟨ret_bool (by rw[hfin.out];rfl),hb0.trans (hb5.mono hb0.size)⟩
 ·go_enter Tryz.func144,Tryz.ntmps144;go_wp2_with fail;refine hS.mono ?_;rintro e w5 ⟨rfl,hb5⟩;obtain⟨f3,-⟩:=Ag hb5;have e0:w5.cell? ⟨w.heap.size,0,none⟩=some (iv v.k):=by rw[f3 _ _ hgb];exact d0
  have e1:w5.cell? ⟨w.heap.size,1,none⟩=some (iv v.n):=by rw[f3 _ _ hgb];exact d1
  have e2:w5.cell? ⟨w.heap.size,2,none⟩=some (bz v.t):=by rw[f3 _ _ hgb];exact d2
  have e3:w5.cell? ⟨w.heap.size,3,none⟩=some (.slice ao v.l.length cap):=by rw[f3 _ _ hgb];exact d3
  clear f3 d0 d1 d2 d3 hW hS;go_wp2_with fail;refine (hWt _ hb5).mono ?_;rintro e w6 ⟨rfl,hb6⟩;clear hWt;go_wp2;go_ret;exact⟨ret_bool (by rw[hfin.out,Bool.true_and,decide_eq_decide];omega),hb0.trans ((hb5.trans (hb6.mono hb5.size)).mono hb0.size)⟩
def Kn(B:Nat->Prop)(y:List UInt8)(p:V->Bool):Prop:=∀(v:V) (sl:Value) (w:World),IsW B w v sl ->
  Calls Tryz.prog 136 #[.agg #[iv v.k,iv v.n,bz v.t,sl],.string ⟨y.toArray⟩] w fun r w'=>r=.returned (.bool (p v))∧Below w.heap.size w w'
theorem Sp(T:Ty):kd T≠0:=by cases T <;> simp[kd]
theorem Ko(a b c d:Value)(w:World):(Instr.field 31 (.agg #[a,b,c,d]) 0).run Tryz.prog w=Result.ok a w:=by kernel_rfl
theorem Sq{B:Nat->Prop}{T:Ty}(hT:T.dp<=4){v:V}{sl:Value}{w:World}(hv:IsW B w v sl)(h:v.k≠kd T) :
  Calls Tryz.prog 136 #[.agg #[iv v.k,iv v.n,bz v.t,sl],.string ⟨(tyT T).toArray⟩] w fun r w'=>r=.returned (.bool false)∧Below w.heap.size w w':=by
 obtain⟨ao,cap,rfl,hc1,hc2⟩:=hv.vs.slice;obtain⟨w0,hW,hb0,hsz,d0,d1,d2,d3⟩:=Aw w v (.slice ao v.l.length cap);have hlen:=Bh T;have hkd:kdOf (tyT T)=kd T:=by unfold kdOf;rw[Cs hT]
 have hZ:=fun w=>Gm (tyT T) (by omega) w
 rw[hkd] at hZ;clear hv hkd hlen;generalize tyT T=y at *;generalize kd T=z at *;by_cases h0:v.k=0
 ·have h0':(v.k == 0)=true:=by simp[h0]
  clear h h0 hZ;go_enter Tryz.func136,Tryz.ntmps136;go_wp2_with fail
  go_quiet (fail)
  go_wp2;go_ret;exact⟨rfl,hb0.trans ((Af _ _).mono hb0.size)⟩
 ·have h0':(v.k == 0)=false:=by simp[h0]
  have hk':(v.k != z)=true:=by simp[h]
  have hgb:w.heap.size<w0.heap.size:=by omega
  have hfd:=fun a b c d w=>Ko a b c d w
  clear h h0;go_enter Tryz.func136,Tryz.ntmps136;go_wp2_with fail;go_region_held3 (fun w'=>w'.cell? ⟨w.heap.size,0,none⟩=some (iv v.k)∧w'.cell? ⟨w.heap.size,1,none⟩=some (iv v.n)∧w'.cell? ⟨w.heap.size,2,none⟩=some (bz v.t)∧w'.cell? ⟨w.heap.size,3,none⟩=some (.slice ao v.l.length cap)) (go_keep)
   ((go_at_call 155;refine (hZ _).mono ?_;rintro e w5 ⟨rfl,hb5⟩;replace hb5:=Ad hb5;obtain⟨f3,-⟩:=Ag hb5))
  all_goals
   go_wp2;go_ret;exact⟨rfl,hb0.trans (hb5.mono hb0.size)⟩
theorem Lv{B:Nat->Prop}{T:Ty}(hT:T.dp<=4){v:V}{sl:Value}{w:World}(hv:IsW B w v sl)(hk:v.k=kd T)
  (hlist:∀t,T=.list t->Kn B (tyT t) (shpB t)) (hmap:∀k t,T≠.map k t) :
  Calls Tryz.prog 136 #[.agg #[iv v.k,iv v.n,bz v.t,sl],.string ⟨(tyT T).toArray⟩] w fun r w'=>r=.returned (.bool (shpB T v))∧Below w.heap.size w w':=by
 have hlen:=Bh T;obtain⟨ao,cap,rfl,hc1,hc2⟩:=hv.vs.slice;obtain⟨w0,hW,hb0,hsz,d0,d1,d2,d3⟩:=Aw w v (.slice ao v.l.length cap);have hkd:kdOf (tyT T)=kd T:=by unfold kdOf;rw[Cs hT]
 have hZ:=fun w=>Gm (tyT T) (by omega) w
 rw[hkd] at hZ;have h0':(v.k == 0)=false:=by rw[hk];have:=Sp T;simp[this]
 have hk':(v.k != kd T)=false:=by simp[hk]
 have hgb:w.heap.size<w0.heap.size:=by omega
 have hfd:=fun a b c d w=>Ko a b c d w
 have HV:Hid (IsW B w v (.slice ao v.l.length cap)):=hv;have HL:Hid (∀t,T=.list t->Kn B (tyT t) (shpB t)):=hlist;have HM:Hid (∀k t,T≠.map k t):=hmap;have HK:Hid (v.k=kd T):=hk;clear hv hlist hmap hkd hlen hk;go_enter Tryz.func136,Tryz.ntmps136;go_wp2_with fail;go_region_held3 (fun w'=>w'.cell? ⟨w.heap.size,0,none⟩=some (iv v.k)∧w'.cell? ⟨w.heap.size,1,none⟩=some (iv v.n)∧w'.cell? ⟨w.heap.size,2,none⟩=some (bz v.t)∧w'.cell? ⟨w.heap.size,3,none⟩=some (.slice ao v.l.length cap)) (go_keep)
  ((go_at_call 155;refine (hZ _).mono ?_;rintro e w5 ⟨rfl,hb5⟩;replace hb5:=Ad hb5;obtain⟨f3,-⟩:=Ag hb5))
 have hB5:Below w.heap.size w w5:=hb0.trans (hb5.mono hb0.size);have hgb5:w.heap.size<w5.heap.size:=by have:=hb5.size;omega
 have e0:w5.cell? ⟨w.heap.size,0,none⟩=some (iv v.k):=by rw[f3 _ _ hgb];exact d0
 have e1:w5.cell? ⟨w.heap.size,1,none⟩=some (iv v.n):=by rw[f3 _ _ hgb];exact d1
 have e2:w5.cell? ⟨w.heap.size,2,none⟩=some (bz v.t):=by rw[f3 _ _ hgb];exact d2
 have e3:w5.cell? ⟨w.heap.size,3,none⟩=some (.slice ao v.l.length cap):=by rw[f3 _ _ hgb];exact d3
 clear f3 d0 d1 d2 d3 hW hZ hk' h0' hb5 hb0 hsz hgb;have hk:v.k=kd T:=HK.out;clear HK;rcases T with _ | _ | _ | t | ⟨k,t⟩
 ·replace hk:v.k=1:=hk;clear HL HM HV;by_cases ht:¬v.t=[]
  ·have hfin:Hid (shpB .int v=false):=Bb.2 (fun h=>by rw[Shp] at h;have:=h.2;simp_all);have qt:(v.t == [])=false:=by simp[ht]
   have qt2:(v.t != [])=true:=by simp[ht]
   clear ht;go_wp2_with fail
   all_goals
    go_ret;exact⟨ret_bool hfin.out.symm,hB5⟩
  replace ht:v.t=[]:=Decidable.not_not.1 ht;by_cases hl:¬v.l.length=0
  ·have hfin:Hid (shpB .int v=false):=Bb.2 (fun h=>by rw[Shp] at h;have:=h.2;simp_all);have ql:(0:Int)<(v.l.length:Int):=by omega
   clear hl;go_wp2_with fail
   all_goals
    go_ret;exact⟨ret_bool hfin.out.symm,hB5⟩
  replace hl:v.l.length=0:=Decidable.not_not.1 hl;have qt:v.t=[]:=ht;have ql:¬(0:Int)<(v.l.length:Int):=by omega
  have hfin:Hid (shpB .int v=true):=Bf.2 (by rw[Shp];exact⟨hk,ht,List.eq_nil_of_length_eq_zero hl⟩);go_wp2;go_ret;exact⟨ret_bool hfin.out.symm,hB5⟩
 ·replace hk:v.k=2:=hk;clear HL HM HV;by_cases ht:¬v.t=[]
  ·have hfin:Hid (shpB .bool v=false):=Bb.2 (fun h=>by rw[Shp] at h;have:=h.2;simp_all);have qt:(v.t == [])=false:=by simp[ht]
   have qt2:(v.t != [])=true:=by simp[ht]
   clear ht;go_wp2_with fail
   all_goals
    go_ret;exact⟨ret_bool hfin.out.symm,hB5⟩
  replace ht:v.t=[]:=Decidable.not_not.1 ht;by_cases hl:¬v.l.length=0
  ·have hfin:Hid (shpB .bool v=false):=Bb.2 (fun h=>by rw[Shp] at h;have:=h.2;simp_all);have ql:(0:Int)<(v.l.length:Int):=by omega
   clear hl;go_wp2_with fail
   all_goals
    go_ret;exact⟨ret_bool hfin.out.symm,hB5⟩
  replace hl:v.l.length=0:=Decidable.not_not.1 hl;have qt:v.t=[]:=ht;have ql:¬(0:Int)<(v.l.length:Int):=by omega
  have hfin:Hid (shpB .bool v=true↔(v.n=0∨v.n=1)):=Bf.trans (by rw[Shp];exact⟨fun h=>h.2.2.2,fun h=>⟨hk,ht,List.eq_nil_of_length_eq_zero hl,h⟩⟩);by_cases n0:v.n=0
  ·have n0':(v.n == 0)=true:=by simp[n0]
   go_wp2;go_ret;exact⟨ret_bool (hfin.out.2 (Or.inl n0)).symm,hB5⟩
  ·have n0':(v.n == 0)=false:=by simp[n0]
   have hfin2:Hid (shpB .bool v=(v.n == 1)):=by
    show _=_;rw[Bool.eq_iff_iff,hfin.out];simp[n0]
   go_wp2;go_ret;exact⟨ret_bool hfin2.out.symm,hB5⟩
 ·replace hk:v.k=3:=hk;clear HL HM HV;by_cases hn:¬v.n=0
  ·have hfin:Hid (shpB .text v=false):=Bb.2 (fun h=>by rw[Shp] at h;have:=h.2;simp_all);have qn:(v.n == 0)=false:=by simp[hn]
   have qn2:(v.n != 0)=true:=by simp[hn]
   clear hn;go_wp2_with fail
   all_goals
    go_ret;exact⟨ret_bool hfin.out.symm,hB5⟩
  replace hn:v.n=0:=Decidable.not_not.1 hn;by_cases hl:¬v.l.length=0
  ·have hfin:Hid (shpB .text v=false):=Bb.2 (fun h=>by rw[Shp] at h;have:=h.2;simp_all);have ql:(0:Int)<(v.l.length:Int):=by omega
   clear hl;go_wp2_with fail
   all_goals
    go_ret;exact⟨ret_bool hfin.out.symm,hB5⟩
  replace hl:v.l.length=0:=Decidable.not_not.1 hl;have qn:v.n=0:=hn;have ql:¬(0:Int)<(v.l.length:Int):=by omega
  have hfin:Hid (shpB .text v=decide (v.t.length<=256)):=by
   show _=_;rw[Bool.eq_iff_iff,Bf,Shp];simp[hk,hn,List.eq_nil_of_length_eq_zero hl]
  go_wp2;go_ret;exact⟨ret_bool (by rw[hfin.out,decide_eq_decide];omega),hB5⟩
 ·replace hk:v.k=4:=hk;have hR:Kn B (tyT t) (shpB t):=HL.out t rfl;clear HL HM;by_cases hn:¬v.n=0
  ·have hfin:Hid (shpB (.list t) v=false):=Bb.2 (fun h=>by rw[Shp] at h;exact hn h.2.1);have qn:(v.n == 0)=false:=by simp[hn]
   have qn2:(v.n != 0)=true:=by simp[hn]
   clear hn HV hR;go_wp2_with fail
   all_goals
    go_ret;exact⟨ret_bool hfin.out.symm,hB5⟩
  replace hn:v.n=0:=Decidable.not_not.1 hn;by_cases ht:¬v.t=[]
  ·have hfin:Hid (shpB (.list t) v=false):=Bb.2 (fun h=>by rw[Shp] at h;exact ht h.2.2.1);have qt:(v.t == [])=false:=by simp[ht]
   have qt2:(v.t != [])=true:=by simp[ht]
   clear ht HV hR;go_wp2_with fail
   all_goals
    go_ret;exact⟨ret_bool hfin.out.symm,hB5⟩
  replace ht:v.t=[]:=Decidable.not_not.1 ht;have hLi:=fun w=>J1 (tyT (.list t)) (by have:=Bh (.list t);omega) w
  have hel:(elT (tyT (.list t))).1=tyT t:=by unfold elT;rw[Cs hT]
  rw[hel] at hLi;have hfin:Hid (shpB (.list t) v=(decide (v.l.length<=64) && v.l.all (shpB t))):=by
   show _=_;rw[Bool.eq_iff_iff,Bf,Shp];simp[Bf,hk,hn,ht]
  have hround:∀(q:Nat) (wr:World),q<v.l.length->Below w5.heap.size w5 wr ->
    ∃x g o ax cx,v.l[q]?=some x∧ao=some ⟨g,o,none⟩∧g<wr.heap.size∧wr.cell? ⟨g,o+q*4,none⟩=some (iv x.k)∧wr.cell? ⟨g,o+q*4+1,none⟩=some (iv x.n)∧wr.cell? ⟨g,o+q*4+2,none⟩=some (bz x.t)∧wr.cell? ⟨g,o+q*4+3,none⟩=some (.slice ax x.l.length cx) ∧
     ∀w2,Below wr.heap.size wr w2->Calls Tryz.prog 136 #[.agg #[iv x.k,iv x.n,bz x.t,.slice ax x.l.length cx],.string ⟨(tyT t).toArray⟩] w2 fun r w'=>r=.returned (.bool (shpB t x))∧Below w2.heap.size w2 w':=by
   intro q wr hq hB;have hx:v.l[q]?=some v.l[q]:=List.getElem?_eq_getElem hq;obtain⟨g,o,ax,cx,e,_,hg1,c0,c1,c2,c3,hw⟩:=(HV.out.vs.below (hB5.trans (hB.mono hB5.size))).get hx;exact⟨v.l[q],g,o,ax,cx,hx,e,hg1,c0,c1,c2,c3,fun w2 h2=>hR _ _ w2 (hw.below h2)⟩
  have hend:∀wr,Below w5.heap.size w5 wr->wr.cell? ⟨w.heap.size,3,none⟩=some (.slice ao v.l.length cap)∧w.heap.size<wr.heap.size:=fun wr h=>⟨by rw[(Ag h).1 _ _ hgb5];exact e3,by have:=h.size;omega⟩
  clear HV hR hel;generalize tyT (.list t)=y at *;generalize tyT t=yt at *;generalize shpB t=p at *;go_wp2_with fail
  go_loopg [75] v.l.length (fun g i wr=>∃q:Nat,q<=v.l.length∧g=v.l.length - q∧i=iv q∧Hid (∀j x,j<q->v.l[j]?=some x->p x=true)∧Below w5.heap.size w5 wr)
  case atStart=>exact⟨0,Nat.zero_le _,rfl,rfl,fun j x h=>by omega,Below.refl _ _⟩
  case round=>
   obtain⟨q,hq,rfl,rfl,HA,hB⟩:=hrel;have hBw:Below w.heap.size w wr:=hB5.trans (hB.mono hB5.size);clear e0 e1 e2 e3 hk hn ht;by_cases hlt:q<v.l.length
   ·obtain⟨x,g,o,ax,cx,hx,rfl,hg,c0,c1,c2,c3,hcall⟩:=hround q wr hlt hB;have hltI:(q:Int)<(v.l.length:Int):=by omega
    have hx':Hid (v.l[q]?=some x):=hx;obtain⟨wx,hWx,hbx,hsx,x0,x1,x2,x3⟩:=Aw wr x (.slice ax x.l.length cx);replace hcall:=fun w2 (h:Below wx.heap.size wx w2)=>hcall w2 (hbx.trans (h.mono hbx.size))
    have hgx:wr.heap.size<wx.heap.size:=by omega
    clear hround hend hx;go_wp2_with fail;go_region_held3 (fun w'=>w'.cell? ⟨wr.heap.size,0,none⟩=some (iv x.k)∧w'.cell? ⟨wr.heap.size,1,none⟩=some (iv x.n)∧w'.cell? ⟨wr.heap.size,2,none⟩=some (bz x.t)∧w'.cell? ⟨wr.heap.size,3,none⟩=some (.slice ax x.l.length cx)) (go_keep)
     (first | (go_at_call 156;refine (hLi _).mono ?_;rintro e w' ⟨rfl,rfl⟩) | (go_at_call 136;refine (hcall _ (Below.refl _ _).drew).mono ?_;rintro e w3 ⟨rfl,hb3⟩;replace hb3:=Ad hb3;obtain⟨f3,-⟩:=Ag hb3))
    have hB3:Below w5.heap.size w5 w3:=hB.trans ((hbx.trans (hb3.mono hbx.size)).mono hB.size);have hBw3:Below w.heap.size w w3:=hB5.trans (hB3.mono hB5.size);clear hcall f3 x0 x1 x2 x3 c0 c1 c2 c3 hWx;rcases hp:p x with _ | _
    ·have hf2:Hid (shpB (.list t) v=false):=by
      show _=_;rw[hfin.out,Bool.and_eq_false_iff];refine Or.inr (List.all_eq_false.2 ⟨x,List.mem_of_getElem? hx'.out,by simp[hp]⟩)
     go_wp2;go_ret;exact⟨ret_bool hf2.out.symm,hBw3⟩
    ·have HA2:Hid (∀j x,j<q+1->v.l[j]?=some x->p x=true):=by
      intro j z hj hz;by_cases e:j=q
      ·subst e;rw[hx'.out] at hz;cases hz;exact hp
      ·exact HA.out j z (by omega) hz
     go_wp2_with fail
     go_roundg (v.l.length - (q+1))
     case measure=>omega
     case rel=>exact⟨q+1,by omega,rfl,by go_num,HA2,hB3⟩
   ·have hltI:¬(q:Int)<(v.l.length:Int):=by omega
    obtain⟨r3,hgr⟩:=hend wr hB;have hf2:Hid (shpB (.list t) v=decide (v.l.length<=64)):=by
     show _=_;have ha:v.l.all p=true:=by
      rw[List.all_eq_true];intro x hx;obtain⟨j,hj⟩:=List.mem_iff_getElem?.1 hx;have:=(List.getElem?_eq_some_iff.1 hj).1;exact HA.out j x (by omega) hj
     rw[hfin.out,ha,Bool.and_true]
    clear hround hend HA;go_wp2;go_ret;exact⟨ret_bool (by rw[hf2.out,decide_eq_decide];omega),hBw⟩
 ·exact absurd rfl (HM.out k t)
end
section
open Go.RowKit
def Be(i:In):List Value:=[iv i.op,iv i.a]
structure IsIs(B:Nat->Prop)(w:World)(l:List In)(sl:Value):Prop where
 row:C0 B w 2 sl l.length (l.flatMap Be)
 rng:∀i∈l,InR i.op∧InR i.a
structure IsFn(B:Nat->Prop)(w:World)(f:Fu)(sl:Value):Prop where
 p:InR f.params
 l:InR f.locals
 z:InR f.zero
 s:InR f.stack
 code:IsIs B w f.code sl
def F1(B:Nat->Prop)(w:World)(f:Fu)(cs:List Value):Prop:=∃ao cap,cs=[iv f.params,iv f.locals,iv f.zero,iv f.stack,.slice ao f.code.length cap]∧IsFn B w f (.slice ao f.code.length cap)
def Bj(B:Nat->Prop)(w:World):List Fu->List Value->Prop
 | [],cs=>cs=[]
 | e :: r,cs=>∃c1 c2,cs=c1 ++ c2∧F1 B w e c1∧Bj B w r c2
def B5(B:Nat->Prop)(w:World)(l:List Fu)(sl:Value):Prop:=∃row,C0 B w 5 sl l.length row∧Bj B w l row
structure IsMd(B:Nat->Prop)(w:World)(m:Md)(cs fs:Value):Prop where
 con:Al B w m.consts cs
 fun_:B5 B w m.funcs fs
theorem IsIs.since{B:Nat->Prop}{w w':World}{l:List In}{sl:Value}(h:IsIs B w l sl)(s:Since B w w'):IsIs B w' l sl:=⟨h.row.since s,h.rng⟩
theorem IsIs.base{B B':Nat->Prop}{w:World}{l:List In}{sl:Value}(h:IsIs B w l sl)(hb:∀k,B k->k<w.heap.size->B' k):IsIs B' w l sl:=⟨h.row.base hb,h.rng⟩
theorem IsFn.since{B:Nat->Prop}{w w':World}{f:Fu}{sl:Value}(h:IsFn B w f sl)(s:Since B w w'):IsFn B w' f sl:=⟨h.p,h.l,h.z,h.s,h.code.since s⟩
theorem IsFn.below{B:Nat->Prop}{w w':World}{f:Fu}{sl:Value}(h:IsFn B w f sl)(s:Below w.heap.size w w'):IsFn B w' f sl:=h.since (Since.of_below s)
theorem IsFn.base{B B':Nat->Prop}{w:World}{f:Fu}{sl:Value}(h:IsFn B w f sl)(hb:∀k,B k->k<w.heap.size->B' k):IsFn B' w f sl:=⟨h.p,h.l,h.z,h.s,h.code.base hb⟩
theorem F1.since{B:Nat->Prop}{w w':World}{f:Fu}{cs:List Value}(h:F1 B w f cs)(s:Since B w w'):F1 B w' f cs:=by
 obtain⟨ao,cap,h1,h2⟩:=h;exact⟨ao,cap,h1,h2.since s⟩
theorem F1.base{B B':Nat->Prop}{w:World}{f:Fu}{cs:List Value}(h:F1 B w f cs)(hb:∀k,B k->k<w.heap.size->B' k):F1 B' w f cs:=by
 obtain⟨ao,cap,h1,h2⟩:=h;exact⟨ao,cap,h1,h2.base hb⟩
theorem Bj.since{B:Nat->Prop}{w w':World}(s:Since B w w'):∀{l:List Fu} {cs:List Value},Bj B w l cs->Bj B w' l cs
 | [],cs,h=>by rw[Bj] at h ⊢;exact h
 | e :: r,cs,h=>by
  rw[Bj] at h ⊢;obtain⟨c1,c2,hc,h1,h2⟩:=h;exact⟨c1,c2,hc,h1.since s,Bj.since s h2⟩
theorem Bj.base{B B':Nat->Prop}{w:World}(hb:∀k,B k->k<w.heap.size->B' k):∀{l:List Fu} {cs:List Value},Bj B w l cs->Bj B' w l cs
 | [],cs,h=>by rw[Bj] at h ⊢;exact h
 | e :: r,cs,h=>by
  rw[Bj] at h ⊢;obtain⟨c1,c2,hc,h1,h2⟩:=h;exact⟨c1,c2,hc,h1.base hb,Bj.base hb h2⟩
theorem B5.since{B:Nat->Prop}{w w':World}{l:List Fu}{sl:Value}(h:B5 B w l sl)(s:Since B w w'):B5 B w' l sl:=by
 obtain⟨row,h1,h2⟩:=h;exact⟨row,h1.since s,h2.since s⟩
theorem B5.base{B B':Nat->Prop}{w:World}{l:List Fu}{sl:Value}(h:B5 B w l sl)(hb:∀k,B k->k<w.heap.size->B' k):B5 B' w l sl:=by
 obtain⟨row,h1,h2⟩:=h;exact⟨row,h1.base hb,h2.base hb⟩
theorem IsMd.since{B:Nat->Prop}{w w':World}{m:Md}{cs fs:Value}(h:IsMd B w m cs fs)(s:Since B w w'):IsMd B w' m cs fs:=⟨h.con.since s,h.fun_.since s⟩
theorem IsMd.below{B:Nat->Prop}{w w':World}{m:Md}{cs fs:Value}(h:IsMd B w m cs fs)(s:Below w.heap.size w w'):IsMd B w' m cs fs:=h.since (Since.of_below s)
theorem IsMd.base{B B':Nat->Prop}{w:World}{m:Md}{cs fs:Value}(h:IsMd B w m cs fs)(hb:∀k,B k->k<w.heap.size->B' k):IsMd B' w m cs fs:=⟨h.con.base hb,h.fun_.base hb⟩
theorem F1.len{B:Nat->Prop}{w:World}{e:Fu}{cs:List Value}(h:F1 B w e cs):cs.length=5:=by
 obtain⟨ao,cap,rfl,_⟩:=h;rfl
theorem Bj.get{B:Nat->Prop}{w:World}:∀{l:List Fu} {row:List Value} {i:Nat} {e:Fu},Bj B w l row->l[i]?=some e->∃cs,F1 B w e cs∧∀j,j<5->row[i*5+j]?=cs[j]?
 | [],row,i,e,h,hi=>by simp at hi
 | a :: r,row,0,e,h,hi=>by
  rw[Bj] at h;obtain⟨c1,c2,hc,h1,h2⟩:=h;simp at hi;subst hi;exact⟨c1,h1,fun j hj=>by rw[hc,List.getElem?_append_left (by have:=h1.len;omega)];simp⟩
 | a :: r,row,i+1,e,h,hi=>by
  rw[Bj] at h;obtain⟨c1,c2,hc,h1,h2⟩:=h;obtain⟨cs,k1,k2⟩:=Bj.get h2 (by simpa using hi);refine⟨cs,k1,fun j hj=>?_⟩;have:=h1.len;rw[hc,List.getElem?_append_right (by omega),<-k2 j hj];congr 1;omega
theorem C0.val5{B:Nat->Prop}{w:World}{sz:Nat}{v:Value}{n:Nat}{row:List Value}(h:C0 B w sz v n row):∃ao cap,v=.slice ao n cap∧n<=cap∧cap<=9223372036854775807:=by
 rcases h.2 with⟨h1,rfl⟩ | ⟨g,o,cap,rfl,h1,h2,_⟩
 ·rcases h1 with rfl | ⟨a,cap,rfl,hc⟩
  ·exact⟨none,0,rfl,Nat.le_refl _,by omega⟩
  ·exact⟨some a,cap,rfl,Nat.zero_le _,by unfold maxLen at hc;omega⟩
 ·exact⟨_,cap,rfl,h1,by unfold maxLen at h2;omega⟩
theorem Jy:∀{l:List In} {i:Nat} {s:In},l[i]?=some s->(l.flatMap Be)[i*2]?=some (iv s.op)∧(l.flatMap Be)[i*2+1]?=some (iv s.a)
 | [],i,s,h=>by simp at h
 | a :: r,0,s,h=>by simp at h;subst h;simp[Be]
 | a :: r,i+1,s,h=>by
  have ih:=Jy (l:=r) (i:=i) (by simpa using h);have e:((a :: r).flatMap Be)=iv a.op :: iv a.a :: (r.flatMap Be):=by simp[Be]
  rw[e];refine⟨?_,?_⟩
  ·rw[show (i+1)*2=i*2+1+1 by omega];simpa using ih.1
  ·rw[show (i+1)*2+1=i*2+1+1+1 by omega];simpa using ih.2
theorem IsIs.get{B:Nat->Prop}{w:World}{l:List In}{ao:Option Addr}{n cap:Nat}(h:IsIs B w l (.slice ao n cap)){i:Nat}{x:In}(hi:l[i]?=some x):∃g o,ao=some ⟨g,o,none⟩∧B g∧g<w.heap.size∧w.cell? ⟨g,o+i*2,none⟩=some (iv x.op)∧w.cell? ⟨g,o+i*2+1,none⟩=some (iv x.a)∧InR x.op∧InR x.a:=by
 obtain⟨⟨h1,h2⟩,h3⟩:=h;have hlt:=(List.getElem?_eq_some_iff.1 hi).1;rcases h2 with⟨_,h4⟩ | ⟨g,o,cap',e,h5,h6,h7,h8,h9⟩
 ·omega
 ·simp only[Value.slice.injEq] at e;obtain⟨g1,g2⟩:=Jy hi;have h10:=h3 x (List.mem_of_getElem? hi);exact⟨g,o,e.1,h7,h8,h9 _ _ g1,by have:=h9 _ _ g2;rwa [<-Nat.add_assoc] at this,h10⟩
theorem B5.get{B:Nat->Prop}{w:World}{l:List Fu}{ao:Option Addr}{n cap:Nat}(h:B5 B w l (.slice ao n cap)){i:Nat}{f:Fu}(hi:l[i]?=some f):∃g o ac cc,ao=some ⟨g,o,none⟩∧B g∧g<w.heap.size∧w.cell? ⟨g,o+i*5,none⟩=some (iv f.params)∧w.cell? ⟨g,o+i*5+1,none⟩=some (iv f.locals)∧w.cell? ⟨g,o+i*5+2,none⟩=some (iv f.zero)∧w.cell? ⟨g,o+i*5+3,none⟩=some (iv f.stack)∧w.cell? ⟨g,o+i*5+4,none⟩=some (.slice ac f.code.length cc)∧IsFn B w f (.slice ac f.code.length cc):=by
 obtain⟨row,⟨h1,h2⟩,h3⟩:=h;have hlt:=(List.getElem?_eq_some_iff.1 hi).1;rcases h2 with⟨_,h4⟩ | ⟨g,o,cap',e,h5,h6,h7,h8,h9⟩
 ·omega
 ·simp only[Value.slice.injEq] at e;obtain⟨cs,⟨ac,cc,rfl,hf⟩,hrow⟩:=h3.get hi;have hc:∀(j:Nat) (u:Value),j<5->([iv f.params,iv f.locals,iv f.zero,iv f.stack,.slice ac f.code.length cc]:List Value)[j]?=some u->w.cell? ⟨g,o+i*5+j,none⟩=some u:=fun j u hj hu=>by
   have:=h9 _ u ((hrow j hj).trans hu)
   rwa [<-Nat.add_assoc] at this
  exact⟨g,o,ac,cc,e.1,h7,h8,hc 0 _ (by omega) rfl,hc 1 _ (by omega) rfl,hc 2 _ (by omega) rfl,hc 3 _ (by omega) rfl,hc 4 _ (by omega) rfl,hf⟩
theorem B5.slice{B:Nat->Prop}{w:World}{l:List Fu}{sl:Value}(h:B5 B w l sl):∃ao cap,sl=.slice ao l.length cap∧l.length<=cap∧cap<=9223372036854775807:=by
 obtain⟨row,h1,_⟩:=h;exact h1.val5
theorem IsIs.slice{B:Nat->Prop}{w:World}{l:List In}{sl:Value}(h:IsIs B w l sl):∃ao cap,sl=.slice ao l.length cap∧l.length<=cap∧cap<=9223372036854775807:=h.row.val5
end
section
open Go.RowKit
attribute [local go_sem ↓] Go.wp_at_zero Go.wp_at_succ
theorem Ae{w:World}{g:Nat}{y0 y1:Value}{T:TypeId}(h:w.heap[g]?=some (.cells #[y0,y1] T (0,0))):w.cell? ⟨g,0,none⟩=some y0∧w.cell? ⟨g,1,none⟩=some y1∧w.frozen? ⟨g,0,none⟩=false∧w.frozen? ⟨g,1,none⟩=false∧g<w.heap.size:=by
 refine⟨?_,?_,?_,?_,(Array.getElem?_eq_some_iff.1 h).1⟩
 all_goals first | simp[World.cell?,h] | simp[World.frozen?,h]
theorem Ak{w:World}{g:Nat}{y0 y1 y2 y3 y4:Value}{T:TypeId}(h:w.heap[g]?=some (.cells #[y0,y1,y2,y3,y4] T (0,0))):w.cell? ⟨g,0,none⟩=some y0∧w.cell? ⟨g,1,none⟩=some y1∧w.cell? ⟨g,2,none⟩=some y2∧w.cell? ⟨g,3,none⟩=some y3∧w.cell? ⟨g,4,none⟩=some y4∧w.frozen? ⟨g,0,none⟩=false∧w.frozen? ⟨g,1,none⟩=false∧w.frozen? ⟨g,2,none⟩=false∧w.frozen? ⟨g,3,none⟩=false∧w.frozen? ⟨g,4,none⟩=false∧g<w.heap.size:=by
 refine⟨?_,?_,?_,?_,?_,?_,?_,?_,?_,?_,(Array.getElem?_eq_some_iff.1 h).1⟩
 all_goals first | simp[World.cell?,h] | simp[World.frozen?,h]
theorem Dq(w:World)(x0 x1:Value)(T:TypeId):∃w0,w.alloc (.cells #[x0,x1] T)=w0∧Below w.heap.size w w0∧w0.heap.size=w.heap.size+1∧w0.heap[w.heap.size]?=some (.cells #[x0,x1] T (0,0)):=
 ⟨_,rfl,(Below.refl _ _).alloc (Nat.le_refl _) _,by simp,Ai _ _⟩
theorem U5(w:World)(x0 x1 x2 x3 x4:Value)(T:TypeId):∃w0,w.alloc (.cells #[x0,x1,x2,x3,x4] T)=w0∧Below w.heap.size w w0∧w0.heap.size=w.heap.size+1∧w0.heap[w.heap.size]?=some (.cells #[x0,x1,x2,x3,x4] T (0,0)):=
 ⟨_,rfl,(Below.refl _ _).alloc (Nat.le_refl _) _,by simp,Ai _ _⟩
theorem Nc(i:In)(w:World):Calls Tryz.prog 104 #[.agg #[iv i.op,iv i.a]] w fun e w'=>e=.returned (iv (psh i.op))∧Below w.heap.size w w':=by
 obtain⟨w0,hW,hb,hl,hx⟩:=Dq w (iv i.op) (iv i.a) 48;obtain⟨c0,c1,-,-,hlt⟩:=Ae hx;obtain⟨op,a⟩:=i;simp only at *;obtain⟨r,hr⟩:∃r,Hid (psh op=r):=⟨_,rfl⟩;rw[hr.out];clear hx hl;go_enter Tryz.func104,Tryz.ntmps104;go_wp2
 all_goals (try go_ret)
 all_goals (refine⟨?_,hb⟩;rw[<-hr.out];unfold psh pshB;simp_all)
theorem Ib{m1 m2:Value}{fs:List Fu}{i:In}{w:World}(h9:(i.op == 9)=false):Calls Tryz.prog 72 #[.agg #[m1,m2],.agg #[iv i.op,iv i.a]] w fun e w'=>e=.returned (iv (popN fs i))∧Below w.heap.size w w':=by
 obtain⟨w0,hW0,hb0,hl0,hx0⟩:=Dq w m1 m2 25;obtain⟨w1,hW,hb,hl,hx⟩:=Dq w0 (iv i.op) (iv i.a) 48;obtain⟨c0,c1,-,-,hlt⟩:=Ae hx;have hB:Below w.heap.size w w1:=hb0.trans (hb.mono (by omega));obtain⟨r,hr⟩:∃r,Hid (popN fs i=r):=⟨_,rfl⟩;rw[hr.out];obtain⟨op,a⟩:=i;simp only at *;clear hx hl hx0 hl0;go_enter Tryz.func72,Tryz.ntmps72;go_wp2
 all_goals (try go_ret)
 all_goals (refine⟨?_,hB⟩;rw[<-hr.out];unfold popN Eh F0;simp_all)
theorem Jz{B:Nat->Prop}{fs:List Fu}{m1:Value}{af:Option Addr}{cf:Nat}{i:In}{w:World}{n:Nat}{f:Fu}(hm:B5 B w fs (.slice af fs.length cf))(h9:i.op=9)(hn:i.a=(n:Int))(hf:fs[n]?=some f):Calls Tryz.prog 72 #[.agg #[m1,.slice af fs.length cf],.agg #[iv i.op,iv i.a]] w fun e w'=>e=.returned (iv (popN fs i))∧Below w.heap.size w w':=by
 obtain⟨w0,hW0,hb0,hl0,hx0⟩:=Dq w m1 (.slice af fs.length cf) 25;obtain⟨w1,hW,hb,hl,hx⟩:=Dq w0 (iv i.op) (iv i.a) 48;obtain⟨c0,c1,-,-,hlt⟩:=Ae hx;obtain⟨d0,d1,-,-,hlt0⟩:=Ae ((hb.block _ (by omega)).trans hx0);have hB:Below w.heap.size w w1:=hb0.trans (hb.mono (by omega));obtain⟨g,o,ac,cc,rfl,-,hg,e0,-⟩:=(hm.since (Since.of_below hB)).get hf;have hr:popN fs i=f.params:=by
  unfold popN Eh F0;rw[h9,hn];simp[hf]
 rw[hr];have hnl:=(List.getElem?_eq_some_iff.1 hf).1;have hI:(n:Int)<(fs.length:Int):=by omega
 have h0:(0:Int)<=(n:Int):=by omega
 rw[h9] at c0;rw[hn] at c1;rw[h9,hn] at hW;rw[h9,hn];clear hx hl hx0 hl0 hr hf hm hnl h9 hn;go_enter Tryz.func72,Tryz.ntmps72;go_wp2;go_ret;exact⟨rfl,hB⟩
end
section
open Go.RowKit
abbrev iV(x:Int):Value:=iv x
abbrev bV(x:Bool):Value:=.bool x
def El(w:World)(g:Nat)(hs:List Int):Prop:=w.heap[g]?=some (.cells (hs.map iV).toArray 3 (0,0))
def D4(w:World)(g:Nat)(bs:List Bool):Prop:=w.heap[g]?=some (.cells (bs.map bV).toArray 4 (0,0))
theorem El.get{w:World}{g:Nat}{hs:List Int}(h:El w g hs){p:Nat}{x:Int}(hp:hs[p]?=some x):w.cell? ⟨g,p,none⟩=some (iv x)∧w.frozen? ⟨g,p,none⟩=false∧g<w.heap.size:=by
 unfold El at h;refine⟨?_,by simp[World.frozen?,h],(Array.getElem?_eq_some_iff.1 h).1⟩;simp only[World.cell?,h];simp[hp]
theorem D4.get{w:World}{g:Nat}{hs:List Bool}(h:D4 w g hs){p:Nat}{x:Bool}(hp:hs[p]?=some x):w.cell? ⟨g,p,none⟩=some (.bool x)∧w.frozen? ⟨g,p,none⟩=false∧g<w.heap.size:=by
 unfold D4 at h;refine⟨?_,by simp[World.frozen?,h],(Array.getElem?_eq_some_iff.1 h).1⟩;simp only[World.cell?,h];simp[hp]
theorem El.set{w:World}{g:Nat}{hs:List Int}(h:El w g hs)(p:Nat)(x:Int):El (w.setCell ⟨g,p,none⟩ (iv x)) g (hs.set p x):=by
 unfold El at *;simp[World.setCell,Array.getElem?_modify,h,List.map_set,Array.setIfInBounds];intro hle;rw[List.set_eq_of_length_le (by simp;omega)]
theorem D4.set{w:World}{g:Nat}{hs:List Bool}(h:D4 w g hs)(p:Nat)(x:Bool):D4 (w.setCell ⟨g,p,none⟩ (.bool x)) g (hs.set p x):=by
 unfold D4 at *;simp[World.setCell,Array.getElem?_modify,h,List.map_set,Array.setIfInBounds];intro hle;rw[List.set_eq_of_length_le (by simp;omega)]
theorem El.keep{w w':World}{g:Nat}{hs:List Int}(h:El w g hs)(e:w'.heap[g]?=w.heap[g]?):El w' g hs:=e.trans h
theorem D4.keep{w w':World}{g:Nat}{hs:List Bool}(h:D4 w g hs)(e:w'.heap[g]?=w.heap[g]?):D4 w' g hs:=e.trans h
theorem Gl{T:TypeId}{z:Value}{size bytes:Nat}(h:(Tryz.prog.info? T).map (fun i=>(i.zero,i.size,i.bytes))=some (some z,size,bytes)):∃i,Tryz.prog.info? T=some i∧i.zero=some z∧i.size=size∧i.bytes=bytes:=by
 rcases hi:Tryz.prog.info? T with _ | i
 ·rw[hi] at h;cases h
 ·rw[hi] at h;simp only[Option.map_some,Option.some.injEq,Prod.mk.injEq] at h;exact⟨i,rfl,h.1,h.2.1,h.2.2⟩
theorem O8:(Tryz.prog.info? 3).map (fun i=>(i.zero,i.size,i.bytes))=some (some (iv 0),1,8):=by kernel_rfl
theorem R4:(Tryz.prog.info? 4).map (fun i=>(i.zero,i.size,i.bytes))=some (some (.bool false),1,1):=by kernel_rfl
theorem Wy(z:Value)(n:Nat):madeCells #[z] n=(List.replicate n z).toArray:=by
 apply Array.ext
 ·simp[madeCells]
 ·intro i h1 h2;simp[madeCells,Nat.mod_one]
theorem J0(n:Nat)(hn:n<=1000000)(w:World):∃w',(Instr.makeSlice 122 (iv n) (iv n)).run Tryz.prog w=.ok (sL w.heap.size 0 n n) w'∧El w' w.heap.size (List.replicate n 0)∧Below w.heap.size w w'∧w.heap.size<w'.heap.size:=by
 obtain⟨i,hi,hz,hs,hb⟩:=Gl O8;have h:=run_make (P:=Tryz.prog) w 122 3 i _ Tryz.underlying122 hi hz .i64 .i64 n n (by omega) (by omega) (by rw[hb];omega) (by omega);have e:(iv 0).cells=#[iv 0]:=rfl;rw[hs,e,Wy] at h;simp only[Int.toNat_natCast,Nat.mul_one] at h;refine⟨_,h,?_,(Below.refl _ _).alloc (Nat.le_refl _) _,by simp⟩;unfold El;rw[List.map_replicate];exact Ai _ _
theorem Ni(n:Nat)(hn:n<=1000000)(w:World):∃w',(Instr.makeSlice 123 (iv n) (iv n)).run Tryz.prog w=.ok (sL w.heap.size 0 n n) w'∧D4 w' w.heap.size (List.replicate n false)∧Below w.heap.size w w'∧w.heap.size<w'.heap.size:=by
 obtain⟨i,hi,hz,hs,hb⟩:=Gl R4;have h:=run_make (P:=Tryz.prog) w 123 4 i _ Tryz.underlying123 hi hz .i64 .i64 n n (by omega) (by omega) (by rw[hb];omega) (by omega);have e:(Value.bool false).cells=#[.bool false]:=rfl;rw[hs,e,Wy] at h;simp only[Int.toNat_natCast,Nat.mul_one] at h;refine⟨_,h,?_,(Below.refl _ _).alloc (Nat.le_refl _) _,by simp⟩;unfold D4;rw[List.map_replicate];exact Ai _ _
def Bt(n0:Nat)(w:World)(v:Value)(l:List Int):Prop:=w.ownsRow n0 3 1 v l.length (l.map iV)
theorem Bt.nil(n0:Nat)(w:World):Bt n0 w sZ []:=⟨rfl,Or.inl ⟨rfl,rfl⟩⟩
theorem Bt.slice{n0:Nat}{w:World}{v:Value}{l:List Int}(h:Bt n0 w v l):∃ao cap,v=.slice ao l.length cap∧l.length<=cap∧cap<=9223372036854775807:=by
 rcases h.2 with⟨e,h0⟩ | ⟨g,cap,cur,e,h4,h5,h6,h7,_⟩
 ·exact⟨none,0,by rw[e,h0],by omega,by omega⟩
 ·exact⟨_,cap,e,h6,by unfold maxLen at h7;omega⟩
theorem Bt.since{n0:Nat}{w w':World}{v:Value}{l:List Int}(h:Bt n0 w v l)(e:∀j,v.ownBlock=some j->w'.heap[j]?=w.heap[j]?):Bt n0 w' v l:=by
 refine⟨h.1,?_⟩;rcases h.2 with h3 | ⟨g,cap,cur,h3,h4,h5,h6⟩
 ·exact Or.inl h3
 ·exact Or.inr ⟨g,cap,cur,h3,h4,by rw[e g (by rw[h3];rfl)];exact h5,h6⟩
theorem Bt.lt{n0:Nat}{w:World}{v:Value}{l:List Int}(h:Bt n0 w v l){j:Nat}(e:v.ownBlock=some j):n0<=j∧j<w.heap.size:=World.ownsRow.lt h j e
theorem Bt.get{n0:Nat}{w:World}{v:Value}{l:List Int}(h:Bt n0 w v l){i:Nat}{x:Int}(hi:l[i]?=some x):∃g cap,v=sL g 0 l.length cap∧g<w.heap.size∧w.cell? ⟨g,i,none⟩=some (iv x):=by
 have hlt:=(List.getElem?_eq_some_iff.1 hi).1;rcases h.2 with⟨e,h0⟩ | ⟨g,cap,cur,h3,h4,h5,h6,h7,h8,h9⟩
 ·omega
 ·refine⟨g,cap,h3,(Array.getElem?_eq_some_iff.1 h5).1,?_⟩;have hc:w.cell? ⟨g,i,none⟩=cur[i]?:=by simp[World.cell?,h5]
  rw[hc];have h10:(l.map iV)[i]?=some (iV x):=by rw[List.getElem?_map,hi];rfl
  rw[<-h9,List.getElem?_take] at h10;split at h10
  ·simpa using h10
  ·cases h10
theorem Bt.push{n0:Nat}{w:World}{v:Value}{l:List Int}(h:Bt n0 w v l){x:Int}{g0:Nat}(hb:w.heap[g0]?=some (.cells #[iV x] 3 (0,0)))(hn:n0<=w.heap.size)(hl:l.length<=100000)(c:Nat)(ty:TypeId) :
  ∃g cap w',(Builtin.append_ #[122,122] ty #[v,sL g0 0 1 c]).run Tryz.prog w=.ok (sL g 0 (l.length+1) cap) w'∧Bt n0 w' (sL g 0 (l.length+1) cap) (l ++ [x])∧w.grownBy w' v.ownBlock∧(v.ownBlock=some g∨w.heap.size<=g):=by
 obtain⟨i,hi,hz,hs,hby⟩:=Gl O8;obtain⟨g,cap,w',hr,ho,hg,hat,hlt⟩:=run_append_lies (P:=Tryz.prog) w 122 ty n0 3 i _ 1 8 Tryz.underlying122 hi hz hs hby rfl (by decide) v l.length (l.map iV) h ⟨g0,0,none⟩ 1 c [iV x] rfl (fun j u hj=>by
  have hj0:j=0:=by have:=(List.getElem?_eq_some_iff.1 hj).1;simp at this;omega
  subst hj0;simp only[List.getElem?_cons_zero,Option.some.injEq] at hj;subst hj;have:w.cell? ⟨g0,0,none⟩=some (iV x):=by simp[World.cell?,hb]
  simpa [Addr.add] using this) (fun u hu=>by simp at hu;subst hu;rfl) (by omega) (by unfold maxLen;omega) (by omega) hn _ rfl
 refine⟨g,cap,w',hr,?_,hg,?_⟩
 ·have:(l ++ [x]).length=l.length+1:=by simp
  unfold Bt;rw[this,List.map_append];exact ho
 ·rcases hat with h | h
  ·exact Or.inl h
  ·exact Or.inr (by omega)
theorem Bt.below{n0:Nat}{w w':World}{v:Value}{l:List Int}(h:Bt n0 w v l)(hg:w.grownBy w' v.ownBlock){n:Nat}(hn:n<=n0)(hn2:n<=w.heap.size):Below n w w':=
 (Below.refl _ _).grown hg hn2 (fun k hk=>by have:=(h.lt hk).1;omega)
end
end Go.Proofs.YtnijcolomoobnaaGreatDoor
