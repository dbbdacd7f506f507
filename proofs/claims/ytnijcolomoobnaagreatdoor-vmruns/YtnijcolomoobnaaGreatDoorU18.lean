/- Texts of ours, joined. -/
import Derived.Test.YtnijcolomoobnaaGreatDoorU13
set_option linter.unusedVariables false
set_option linter.unusedSimpArgs false
set_option maxRecDepth 100000
set_option maxHeartbeats 16000000
namespace Go.Proofs.YtnijcolomoobnaaGreatDoor
section
open Go.RowKit
attribute [local go_sem ↓] Go.wp_at_zero Go.wp_at_succ
theorem Pu{B:Nat->Prop}{v k:V}{ao ak:Option Addr}{cap ck:Nat}{w:World}(hv:IsW B w v (.slice ao v.l.length cap))(hk:IsW B w k (.slice ak k.l.length ck))(hwv:wt v<=400000)(ht:Et v) :
  Calls Tryz.prog 110 #[.agg #[iv v.k,iv v.n,bz v.t,.slice ao v.l.length cap],.agg #[iv k.k,iv k.n,bz k.t,.slice ak k.l.length ck]] w fun r w'=>Br w (atV v k) r w':=by
 obtain⟨ao',cap',e,c1,c2⟩:=hv.vs.slice;simp only[Value.slice.injEq] at e;obtain⟨rfl,-,rfl⟩:=e;have hwts:=Bw v;have hlv:=A4 v.l;obtain⟨w0,w1,w2,hW,hW1,hW2,hs0,hs1,hs2,hB2,hc,hr⟩:=Fc w v (.slice ao v.l.length cap) k (.slice ak k.l.length ck);obtain⟨a0,a1,a2,a3,b0,b1,b2,b3⟩:=hc w2 (Below.refl _ _);have hget:∀(i:Nat) (w3:World),i<v.l.length->Below w2.heap.size w2 w3->∃x g o ax cx,v.l[i]?=some x∧ao=some ⟨g,o,none⟩∧g<w3.heap.size∧w3.cell? ⟨g,o+i*4,none⟩=some (iv x.k)∧w3.cell? ⟨g,o+i*4+1,none⟩=some (iv x.n)∧w3.cell? ⟨g,o+i*4+2,none⟩=some (bz x.t)∧w3.cell? ⟨g,o+i*4+3,none⟩=some (.slice ax x.l.length cx)∧Calls Tryz.prog 17 #[.agg #[iv x.k,iv x.n,bz x.t,.slice ax x.l.length cx]] w3 fun r w'=>D7 w3 x r w':=by
  intro i w3 hi hb3;have hx:v.l[i]?=some v.l[i]:=List.getElem?_eq_getElem hi;have hwx:=Df hx;have hbw:Below w.heap.size w w3:=hB2.trans (hb3.mono hB2.size);obtain⟨g,o,ax,cx,e,_,hg,q0,q1,q2,q3,hw⟩:=(hv.vs.below hbw).get hx;exact⟨v.l[i],g,o,ax,cx,hx,e,hg,q0,q1,q2,q3,Az _ _ _ B w3 (Nat.lt_succ_self _) (by omega) hw⟩
 have hfin:Hid (atV v k=if (plV v k).2=0 then (v.l.getD (plV v k).1 V.zero,0) else (V.zero,(plV v k).2)):=rfl;have hpl:Hid (plV v k=if v.k=4∧k.k=1 then (if 0<=k.n∧k.n<v.l.length then (k.n.toNat,0) else (0,52)) else if v.k=5 then (if hit k v.l=true then (2*kat k v.l+1,0) else (0,52)) else (0,40)):=rfl;by_cases h4:v.k=4
 ·have hk4:(v.k == 4)=true:=by simp[h4]
  by_cases k1:k.k=1
  ·have hk1:(k.k == 1)=true:=by simp[k1]
   have hkr:=hk.nr;clear hv hk;by_cases n0:0<=k.n
   ·have hd0:decide (0<=k.n)=true:=by simp[n0]
    have hnn:¬k.n<0:=by omega
    by_cases n1:k.n<(v.l.length:Int)
    ·have hd1:decide (k.n<(v.l.length:Int))=true:=by simp[n1]
     obtain⟨i,hi⟩:∃i:Nat,k.n=(i:Int):=⟨k.n.toNat,by omega⟩;have hpl':Hid (plV v k=(i,0)):=by
      show _=_;rw[hpl.out,if_pos ⟨h4,k1⟩,if_pos ⟨n0,n1⟩,hi];simp
     obtain⟨x,g,o,ax,cx,hx,rfl,hg,q0,q1,q2,q3,hcp⟩:=hget i w2 (by omega) (Below.refl _ _);have hok:Hid (atV v k=(x,0)):=by
      show _=_;rw[hfin.out,hpl'.out];simp[List.getD_eq_getElem?_getD,hx]
     have hiI:(i:Int)<(v.l.length:Int):=by omega
     have hi0:(0:Int)<=(i:Int):=by omega
     rw[hi] at b1 hd0 hd1;have hW1':=hW1;rw[hi] at hW1';clear hfin hpl hpl' hget hc hx h4 k1 n0 n1 hnn;go_enter Tryz.func110,Tryz.ntmps110;simp only[hi];go_wp2_with fail;refine hcp.mono ?_;rintro e w4 ⟨⟨a4,c4,rfl,hx4,-⟩,hb4⟩;clear hcp;have hb24:Below w2.heap.size w2 w4:=(Below.refl w2.heap.size w2).trans (hb4.mono (Below.refl w2.heap.size w2).size);obtain⟨r0,r1,r2,r3,s0,s1,s2,s3,hz⟩:=hr w4 hb24;have hs3:=(Below.refl w2.heap.size w2).size;have hres:=Br.stored (o:=(x,0)) hx4 (hB2.trans (hb24.mono hB2.size)) (g:=w.heap.size+2) (by omega) (by omega);clear hr hx4;go_wp2_with fail;exact bodyPost_ret (v:=.tuple #[.agg #[iv x.k,iv x.n,bz x.t,.slice a4 x.l.length c4],iv 0]) (by simp[results,Tryz.results110,go_sem,hz,r0,r1,r2,r3]) rfl (by rw[hok.out];exact hres)
    ·have hd1:decide (k.n<(v.l.length:Int))=false:=by simp;omega
     have hp0:plV v k=(0,52):=by rw[hpl.out,if_pos ⟨h4,k1⟩,if_neg (fun h=>n1 h.2)]
     have hz0:Hid (atV v k=(V.zero,52)):=by show _=_;rw[hfin.out,hp0];rfl
     obtain⟨r0,r1,r2,r3,s0,s1,s2,s3,hz⟩:=hr w2 (Below.refl w2.heap.size w2);have hres:=Bk (e:=52) (Aj (hB2.trans (((Below.refl w2.heap.size w2)).mono hB2.size)) (g:=w.heap.size+2) (by omega) (iv 0) (iv 0) (.string ⟨#[]⟩) sZ);rw[<-hz0.out] at hres;clear hr hc hfin hpl hget hp0;clear h4 k1;go_enter Tryz.func110,Tryz.ntmps110;go_wp2_with fail;exact bodyPost_ret (v:=.tuple #[.agg #[iv 0,iv 0,.string ⟨#[]⟩,sZ],iv 52]) (by simp[results,Tryz.results110,go_sem,hz,r0,r1,r2,r3]) rfl hres
   ·have hd0:decide (0<=k.n)=false:=by simp;omega
    have hp0:plV v k=(0,52):=by rw[hpl.out,if_pos ⟨h4,k1⟩,if_neg (fun h=>n0 h.1)]
    have hz0:Hid (atV v k=(V.zero,52)):=by show _=_;rw[hfin.out,hp0];rfl
    obtain⟨r0,r1,r2,r3,s0,s1,s2,s3,hz⟩:=hr w2 (Below.refl w2.heap.size w2);have hres:=Bk (e:=52) (Aj (hB2.trans (((Below.refl w2.heap.size w2)).mono hB2.size)) (g:=w.heap.size+2) (by omega) (iv 0) (iv 0) (.string ⟨#[]⟩) sZ);rw[<-hz0.out] at hres;clear hr hc hfin hpl hget hp0;clear h4 k1;go_enter Tryz.func110,Tryz.ntmps110;go_wp2_with fail;exact bodyPost_ret (v:=.tuple #[.agg #[iv 0,iv 0,.string ⟨#[]⟩,sZ],iv 52]) (by simp[results,Tryz.results110,go_sem,hz,r0,r1,r2,r3]) rfl hres
  ·have hk1:(k.k == 1)=false:=by simp[k1]
   have hk5:(v.k == 5)=false:=by simp[h4]
   clear hv hk;have hp0:plV v k=(0,40):=by rw[hpl.out,if_neg (fun h=>k1 h.2),if_neg (by omega)]
   have hz0:Hid (atV v k=(V.zero,40)):=by show _=_;rw[hfin.out,hp0];rfl
   obtain⟨r0,r1,r2,r3,s0,s1,s2,s3,hz⟩:=hr w2 (Below.refl w2.heap.size w2);have hres:=Bk (e:=40) (Aj (hB2.trans (((Below.refl w2.heap.size w2)).mono hB2.size)) (g:=w.heap.size+2) (by omega) (iv 0) (iv 0) (.string ⟨#[]⟩) sZ);rw[<-hz0.out] at hres;clear hr hc hfin hpl hget hp0;clear h4;go_enter Tryz.func110,Tryz.ntmps110;go_wp2_with fail;exact bodyPost_ret (v:=.tuple #[.agg #[iv 0,iv 0,.string ⟨#[]⟩,sZ],iv 40]) (by simp[results,Tryz.results110,go_sem,hz,r0,r1,r2,r3]) rfl hres
 ·have hk4:(v.k == 4)=false:=by simp[h4]
  by_cases h5:v.k=5
  ·have hk5:(v.k == 5)=true:=by simp[h5]
   obtain⟨t1,t2⟩:=ht h5;have hP:=Er (hv.below hB2) (hk.below hB2) (by omega) t1 t2;clear hv hk;rcases hh:hit k v.l with _ | _
   ·have hI:plI k v.l=-1:=by unfold plI;rw[hh];rfl
    rw[hI] at hP;have hp0:plV v k=(0,52):=by rw[hpl.out,if_neg (fun h=>h4 h.1),if_pos h5,hh];rfl
    have hz0:Hid (atV v k=(V.zero,52)):=by show _=_;rw[hfin.out,hp0];rfl
    clear hc hfin hpl hget hI hh h5 hp0;go_enter Tryz.func110,Tryz.ntmps110;go_wp2_with fail;refine hP.mono ?_;rintro e w3 ⟨rfl,hb3⟩;clear hP;obtain⟨r0,r1,r2,r3,s0,s1,s2,s3,hz⟩:=hr w3 hb3;have hres:=Bk (e:=52) (Aj (hB2.trans (hb3.mono hB2.size)) (g:=w.heap.size+2) (by omega) (iv 0) (iv 0) (.string ⟨#[]⟩) sZ);rw[<-hz0.out] at hres;clear hr;go_wp2_with fail;exact bodyPost_ret (v:=.tuple #[.agg #[iv 0,iv 0,.string ⟨#[]⟩,sZ],iv 52]) (by simp[results,Tryz.results110,go_sem,hz,r0,r1,r2,r3]) rfl hres
   ·have hlt:=(List.getElem?_eq_some_iff.1 (Da hh)).1;obtain⟨i,hi⟩:∃i:Nat,2*kat k v.l=i:=⟨_,rfl⟩;have hI:plI k v.l=(i:Int):=by unfold plI;rw[hh,<-hi];rfl
    rw[hI] at hP;rw[hi] at hlt;have hpl':Hid (plV v k=(i+1,0)):=by show _=_;rw[hpl.out,if_neg (fun h=>h4 h.1),if_pos h5,hh,<-hi];rfl
    have hge:(0:Int)<=(i:Int):=by omega
    have hnn:¬(i:Int)<0:=by omega
    have hw1:IntKind.i64.wrap ((i:Int)+1)=((i+1:Nat):Int):=by rw[IntKind.wrap_i64];omega
    have hw2:(i:Int)+1=((i+1:Nat):Int):=by omega
    have hw3:IntKind.i64.wrap ((i+1:Nat):Int)=((i+1:Nat):Int):=by rw[IntKind.wrap_i64];omega
    have hlt1:i+1<v.l.length:=by omega
    clear hi hI hh;generalize i+1=j at *;have hjI:(j:Int)<(v.l.length:Int):=by omega
    have hj0:(0:Int)<=(j:Int):=by omega
    have hjn:¬(j:Int)<0:=by omega
    clear h5;go_enter Tryz.func110,Tryz.ntmps110;go_wp2_with fail;refine hP.mono ?_;rintro e w3 ⟨rfl,hb3⟩;clear hP;obtain⟨x,g,o,ax,cx,hx,rfl,hg,q0,q1,q2,q3,hcp⟩:=hget j w3 hlt1 hb3;obtain⟨f0,f1,f2,f3,-⟩:=hc w3 hb3;have hok:Hid (atV v k=(x,0)):=by
     show _=_;rw[hfin.out,hpl'.out];simp[List.getD_eq_getElem?_getD,hx]
    clear hfin hpl hpl' hget hc hx a0 a1 a2 a3 b0 b1 b2 b3;go_wp2_with fail;refine hcp.mono ?_;rintro e w4 ⟨⟨a4,c4,rfl,hx4,-⟩,hb4⟩;clear hcp;have hb24:Below w2.heap.size w2 w4:=(hb3).trans (hb4.mono (hb3).size);obtain⟨r0,r1,r2,r3,s0,s1,s2,s3,hz⟩:=hr w4 hb24;have hs3:=(hb3).size;have hres:=Br.stored (o:=(x,0)) hx4 (hB2.trans (hb24.mono hB2.size)) (g:=w.heap.size+2) (by omega) (by omega);clear hr hx4;go_wp2_with fail;exact bodyPost_ret (v:=.tuple #[.agg #[iv x.k,iv x.n,bz x.t,.slice a4 x.l.length c4],iv 0]) (by simp[results,Tryz.results110,go_sem,hz,r0,r1,r2,r3]) rfl (by rw[hok.out];exact hres)
  ·have hk5:(v.k == 5)=false:=by simp[h5]
   clear hv hk;have hp0:plV v k=(0,40):=by rw[hpl.out,if_neg (fun h=>h4 h.1),if_neg h5]
   have hz0:Hid (atV v k=(V.zero,40)):=by show _=_;rw[hfin.out,hp0];rfl
   obtain⟨r0,r1,r2,r3,s0,s1,s2,s3,hz⟩:=hr w2 (Below.refl w2.heap.size w2);have hres:=Bk (e:=40) (Aj (hB2.trans (((Below.refl w2.heap.size w2)).mono hB2.size)) (g:=w.heap.size+2) (by omega) (iv 0) (iv 0) (.string ⟨#[]⟩) sZ);rw[<-hz0.out] at hres;clear hr hc hfin hpl hget hp0;go_enter Tryz.func110,Tryz.ntmps110;go_wp2_with fail;exact bodyPost_ret (v:=.tuple #[.agg #[iv 0,iv 0,.string ⟨#[]⟩,sZ],iv 40]) (by simp[results,Tryz.results110,go_sem,hz,r0,r1,r2,r3]) rfl hres
end
end Go.Proofs.YtnijcolomoobnaaGreatDoor
