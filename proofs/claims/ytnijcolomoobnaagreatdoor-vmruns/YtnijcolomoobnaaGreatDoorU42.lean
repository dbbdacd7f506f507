/- Texts of ours, joined. -/
import Derived.Test.YtnijcolomoobnaaGreatDoorU31
import Derived.Test.YtnijcolomoobnaaGreatDoorU40
set_option linter.unusedVariables false
set_option linter.unusedSimpArgs false
set_option maxRecDepth 100000
set_option maxHeartbeats 16000000
namespace Go.Proofs.YtnijcolomoobnaaGreatDoor
section
open Go.RowKit
attribute [local go_sem ↓] Go.wp_at_zero Go.wp_at_succ
def P1(m:Md)(states:List V)(n:Int):Prop:=Run m (states.length:Int)∧0<=n∧n<m.funcs.length
def P2(m:Md)(states:List V)(n:Int)(args:List V):Prop:=P1 m states n∧∀f,m.funcs[n.toNat]?=some f->(args.length:Int)=f.params
theorem Uy{B:Nat->Prop}{m:Md}{ac af as_ aa:Option Addr}{cc cf cs_ ca:Nat}{states args:List V}{n fuel:Int}{w:World}(hm:IsMd B w m (.slice ac m.consts.length cc) (.slice af m.funcs.length cf))(hs:Al B w states (.slice as_ states.length cs_))(ha:Al B w args (.slice aa args.length ca))(hwm:∀v∈m.consts,wt v<=1000000)(hws:∀v∈states,wt v<=1000000)(hwa:∀v∈args,wt v<=1000000)(hls:states.length<=800000)(hla:args.length<=800000)(hn:InR n)(hfu:InR fuel)(ht:Cj w.heap.size w)(hDo:Run m (states.length:Int)->∀p G,Ww w.heap.size p m (states.length:Int) G) :
  Calls Tryz.prog 12 #[.agg #[.slice ac m.consts.length cc,.slice af m.funcs.length cf],.slice as_ states.length cs_,iv n,.slice aa args.length ca,iv fuel] w (Gb m states n args fuel w):=by
 obtain⟨w1,hW1,hb1,hl1,hx1⟩:=Dq w (.slice ac m.consts.length cc) (.slice af m.funcs.length cf) 25;obtain⟨w2,hW2,hb2,hl2,hx2⟩:=Xv w1;have hB2:Below w.heap.size w w2:=hb1.trans (hb2.mono hb1.size);have hlw1:w.heap.size<w1.heap.size:=by omega
 have hcell:∀wr,Below w2.heap.size w2 wr->wr.cell? ⟨w.heap.size,0,none⟩=some (.slice ac m.consts.length cc)∧wr.cell? ⟨w.heap.size,1,none⟩=some (.slice af m.funcs.length cf)∧w.heap.size<wr.heap.size∧w1.heap.size<wr.heap.size:=fun wr hb=>by
  obtain⟨q0,q1,-,-,q2⟩:=Ae ((hb.block _ (by omega)).trans ((hb2.block _ hlw1).trans hx1));exact⟨q0,q1,q2,Nat.lt_of_lt_of_le hl2 hb.size⟩
 have hBf:∀wr,Below w2.heap.size w2 wr->Below w.heap.size w wr:=fun wr hb=>hB2.trans (hb.mono hB2.size)
 have hV:=Kp (hm.below hB2) (fun v hv=>by have:=hwm v hv;omega) (states.length:Int);obtain⟨k0,k1,k2,k3⟩:=hcell w2 (Below.refl _ _);have Hcell:Hid _:=hcell;have HBf:Hid _:=hBf;have Hm:Hid _:=hm;have Hs:Hid (Al B w states (.slice as_ states.length cs_)):=hs;have Ha:Hid (Al B w args (.slice aa args.length ca)):=ha;have Hws:Hid _:=hws;have Hwa:Hid _:=hwa;have Ht:Hid (Cj w.heap.size w):=ht;have hfl:m.funcs.length<=9223372036854775807:=by obtain⟨_,_,e,h1,h2⟩:=hm.fun_.slice;cases e;omega
 clear hcell hBf hm hs ha hws hwa ht hx1 hb1 hb2 hl1 hwm;go_enter Tryz.func12,Tryz.ntmps12
 go_upto_region 1 with fail
 go_cut [12] from 19 to 34 (fun s wc=>∃b:Bool,s=.bool b∧Hid (b=true↔P1 m states n)∧Below w2.heap.size w2 wc)
 case first=>
  have hv1:=U3 (m:=m) (states:=(states.length:Int));by_cases hR:Run m (states.length:Int)
  ·rw[H8 hR] at hV;by_cases h0:0<=n
   ·have h0d:decide (n ≥ 0)=true:=by simpa using h0
    have HP:Hid (decide (n<(m.funcs.length:Int))=true↔P1 m states n):=by show _↔_;rw[decide_eq_true_iff];exact⟨fun h=>⟨hR,h0,h⟩,fun h=>h.2.2⟩
    clear hv1 hR;go_wp2_with fail;refine hV.mono ?_;rintro e w3 ⟨rfl,hb3⟩;obtain⟨j0,j1,j2,j3⟩:=Hcell.out w3 hb3;clear hV;go_wp2_with fail
    go_meet
    exact⟨_,rfl,HP,hb3⟩
   ·have h0d:decide (n ≥ 0)=false:=by simpa using h0
    have HP:Hid (false=true↔P1 m states n):=by show _↔_;exact⟨fun h=>by simp at h,fun h=>absurd h.2.1 h0⟩
    clear hv1 hR;go_wp2_with fail;refine hV.mono ?_;rintro e w3 ⟨rfl,hb3⟩;clear hV;go_wp2_with fail
    go_meet
    exact⟨_,rfl,HP,hb3⟩
  ·rw[H9 hR] at hV;have HP:Hid (false=true↔P1 m states n):=by show _↔_;exact⟨fun h=>by simp at h,fun h=>absurd h.1 hR⟩
   clear hv1 hR;go_wp2_with fail;refine hV.mono ?_;rintro e w3 ⟨rfl,hb3⟩;clear hV;go_wp2_with fail
   go_meet
   exact⟨_,rfl,HP,hb3⟩
 case rest=>
  obtain⟨b1,rfl,HP1,hbc⟩:=hcut;obtain⟨wv,hwv⟩:∃wv,wv=wc:=⟨_,rfl⟩;subst hwv;obtain⟨j0,j1,j2,j3⟩:=Hcell.out wv hbc;clear hV k0 k1 k2 k3
  go_upto_region 2 with fail
  go_cut [12] from 35 to 46 (fun s wc=>∃b:Bool,s=.bool b∧Hid (b=true↔P2 m states n args)∧wc=wv)
  case first=>
   cases b1
   ·have HP:Hid (false=true↔P2 m states n args):=⟨fun h=>by simp at h,fun h=>by have:=HP1.out.2 h.1;simp at this⟩;clear HP1;go_wp2_with fail
    go_meet
    exact⟨_,rfl,HP,rfl⟩
   ·obtain⟨hR,h0,h1⟩:=HP1.out.1 rfl;have hf:m.funcs[n.toNat]?=some m.funcs[n.toNat]:=List.getElem?_eq_getElem (by omega);obtain⟨gf,of,ak,ck,rfl,-,hgf,f0,-,-,-,-,-⟩:=(Hm.out.below (HBf.out wv hbc)).fun_.get hf;have HP:Hid (((args.length:Int) == (m.funcs[n.toNat]).params)=true↔P2 m states n args):=by
     show _↔_;rw[beq_iff_eq];exact⟨fun h=>⟨⟨hR,h0,h1⟩,fun f hf'=>by rw[hf] at hf';obtain rfl:=Option.some.inj hf';exact h⟩,fun h=>h.2 _ hf⟩
    generalize (m.funcs[n.toNat]).params=fp at *;obtain⟨nn,Hnn⟩:∃nn:Nat,Hid (n=(nn:Int)):=⟨n.toNat,by show _=_;omega⟩;have hnt:n.toNat=nn:=by have:=Hnn.out;omega
    have hnI:(nn:Int)<(m.funcs.length:Int):=by have:=Hnn.out;omega
    have hn0:(0:Int)<=(nn:Int):=by omega
    rw[hnt] at f0;rw[Hnn.out] at HP;clear HP1 hR h0 h1 hf hnt hfu hn;have hnn:=Hnn.out;subst hnn;go_wp2_with fail
    go_meet
    exact⟨_,rfl,HP,rfl⟩
  case rest=>
   obtain⟨b2,rfl,HP2,rfl⟩:=hcut;clear HP1;have Hst:Hid (∀(l:List V) (al:Option Addr) (cl:Nat),Al B w l (.slice al l.length cl)->(∀v∈l,wt v<=1000000)->∀(q:Nat) (wr:World),q<l.length->Below w2.heap.size w2 wr->∃x g o ax cx,l[q]?=some x∧al=some ⟨g,o,none⟩∧g<wr.heap.size∧wr.cell? ⟨g,o+q*4,none⟩=some (iv x.k)∧wr.cell? ⟨g,o+q*4+1,none⟩=some (iv x.n)∧wr.cell? ⟨g,o+q*4+2,none⟩=some (bz x.t)∧wr.cell? ⟨g,o+q*4+3,none⟩=some (.slice ax x.l.length cx) ∧
     (∀w3,Below wr.heap.size wr w3->Calls Tryz.prog 10 #[.agg #[iv x.k,iv x.n,bz x.t,.slice ax x.l.length cx]] w3 fun r w'=>(∃b:Bool,r=.returned (.bool b)∧(b=true↔Snd x))∧Below w3.heap.size w3 w')∧(Av (l.take (q+1))↔Av (l.take q)∧Snd x)):=by
    intro l al cl hl hw q wr hq hb;have hx:l[q]?=some l[q]:=List.getElem?_eq_getElem hq;obtain⟨g,o,ax,cx,e,-,hg,c0,c1,c2,c3,hwx⟩:=(hl.below (HBf.out wr hb)).get hx;refine⟨l[q],g,o,ax,cx,hx,e,hg,c0,c1,c2,c3,fun w3 h3=>Jg (hw _ (List.getElem_mem hq)) (hwx.below h3),?_⟩;have htk:l.take (q+1)=l.take q ++ [l[q]]:=by rw[List.take_add_one,hx];rfl
    rw[htk];constructor
    ·intro h;exact⟨fun y hy=>h y (List.mem_append_left _ hy),h _ (List.mem_append_right _ (by simp))⟩
    ·rintro⟨h1,h2⟩ y hy;rcases List.mem_append.1 hy with hy | hy
     ·exact h1 y hy
     ·rw[List.mem_singleton.1 hy];exact h2
   have hslI:states.length<=9223372036854775807:=by omega
   go_wp2_with fail
   go_loopg [12,49] states.length (fun g s12 i wr=>∃(q:Nat) (b:Bool),q<=states.length∧g=states.length - q∧s12=.bool b∧i=iv q∧Hid (b=true↔P2 m states n args∧Av (states.take q))∧Below w2.heap.size w2 wr)
   case atStart=>exact⟨0,b2,Nat.zero_le _,rfl,rfl,rfl,⟨fun h=>⟨HP2.out.1 h,fun y hy=>by simp at hy⟩,fun h=>HP2.out.2 h.1⟩,hbc⟩
   case round=>
    obtain⟨q,b,hq,rfl,rfl,rfl,HB,hBr⟩:=hrel;by_cases hlt:q<states.length
    ·obtain⟨x,g,o,ax,cx,-,rfl,hg,x0,x1,x2,x3,hC,hT⟩:=Hst.out states _ _ Hs.out Hws.out q wr hlt hBr;have hltI:(q:Int)<(states.length:Int):=by omega
     have hq0:(0:Int)<=(q:Int):=by omega
     have hba:Below wr.heap.size wr (wr.alloc (.cells #[iv x.k,iv x.n,bz x.t,.slice ax x.l.length cx] 31)):=(Below.refl _ _).alloc (Nat.le_refl _) _;have HT:Hid _:=hT;clear hT Hst;cases b
     ·have HB':Hid (false=true↔P2 m states n args∧Av (states.take (q+1))):=⟨fun h=>by simp at h,fun h=>HB.out.2 ⟨h.1,(HT.out.1 h.2).1⟩⟩;clear hC HB HT;go_wp2_with fail;go_roundg (states.length - (q+1))
      case measure=>omega
      case rel=>exact⟨q+1,false,by omega,rfl,rfl,by go_num,HB',hBr.trans (hba.mono hBr.size)⟩
     ·have HBt:P2 m states n args∧Av (states.take q):=HB.out.1 rfl;replace HBt:Hid _:=HBt;go_wp2_with fail;refine (hC _ hba).mono ?_;rintro e w3 ⟨⟨b',rfl,hb'⟩,hb3⟩;have HB':Hid (b'=true↔P2 m states n args∧Av (states.take (q+1))):=⟨fun h=>⟨HBt.out.1,HT.out.2 ⟨HBt.out.2,hb'.1 h⟩⟩,fun h=>hb'.2 (HT.out.1 h.2).2⟩;clear hC HB HT hb';go_wp2_with fail;go_roundg (states.length - (q+1))
      case measure=>omega
      case rel=>exact⟨q+1,b',by omega,rfl,rfl,by go_num,HB',hBr.trans ((hba.trans (hb3.mono hba.size)).mono hBr.size)⟩
    ·have hltI:¬(q:Int)<(states.length:Int):=by omega
     have hqe:q=states.length:=by omega
     subst hqe;have HB2:Hid (b=true↔P2 m states n args∧Av states):=by have:=HB.out;rw[List.take_length] at this;exact this
     obtain⟨wy,hwy⟩:∃wy,wy=wr:=⟨_,rfl⟩;subst hwy;obtain⟨by2,hby2⟩:∃c,c=b:=⟨_,rfl⟩;subst hby2;clear HB HP2;go_wp2_with fail
     go_loopg [12,61] args.length (fun g s12 i wr=>∃(q:Nat) (b:Bool),q<=args.length∧g=args.length - q∧s12=.bool b∧i=iv q∧Hid (b=true↔(P2 m states n args∧Av states)∧Av (args.take q))∧Below w2.heap.size w2 wr)
     case atStart=>exact⟨0,by2,Nat.zero_le _,rfl,rfl,rfl,⟨fun h=>⟨HB2.out.1 h,fun y hy=>by simp at hy⟩,fun h=>HB2.out.2 h.1⟩,hBr⟩
     case round=>
      obtain⟨q,b,hq,rfl,rfl,rfl,HB,hBr⟩:=hrel;by_cases hlt:q<args.length
      ·obtain⟨x,g,o,ax,cx,-,rfl,hg,x0,x1,x2,x3,hC,hT⟩:=Hst.out args _ _ Ha.out Hwa.out q wr hlt hBr;have hltI:(q:Int)<(args.length:Int):=by omega
       have hq0:(0:Int)<=(q:Int):=by omega
       have hba:Below wr.heap.size wr (wr.alloc (.cells #[iv x.k,iv x.n,bz x.t,.slice ax x.l.length cx] 31)):=(Below.refl _ _).alloc (Nat.le_refl _) _;have HT:Hid _:=hT;clear hT Hst;cases b
       ·have HB':Hid (false=true↔(P2 m states n args∧Av states)∧Av (args.take (q+1))):=⟨fun h=>by simp at h,fun h=>HB.out.2 ⟨h.1,(HT.out.1 h.2).1⟩⟩;clear hC HB HT;go_wp2_with fail;go_roundg (args.length - (q+1))
        case measure=>omega
        case rel=>exact⟨q+1,false,by omega,rfl,rfl,by go_num,HB',hBr.trans (hba.mono hBr.size)⟩
       ·have HBt:(P2 m states n args∧Av states)∧Av (args.take q):=HB.out.1 rfl;replace HBt:Hid _:=HBt;go_wp2_with fail;refine (hC _ hba).mono ?_;rintro e w3 ⟨⟨b',rfl,hb'⟩,hb3⟩;have HB':Hid (b'=true↔(P2 m states n args∧Av states)∧Av (args.take (q+1))):=⟨fun h=>⟨HBt.out.1,HT.out.2 ⟨HBt.out.2,hb'.1 h⟩⟩,fun h=>hb'.2 (HT.out.1 h.2).2⟩;clear hC HB HT hb';go_wp2_with fail;go_roundg (args.length - (q+1))
        case measure=>omega
        case rel=>exact⟨q+1,b',by omega,rfl,rfl,by go_num,HB',hBr.trans ((hba.trans (hb3.mono hba.size)).mono hBr.size)⟩
      ·have hltI:¬(q:Int)<(args.length:Int):=by omega
       have hqe:q=args.length:=by omega
       subst hqe;have HV:Hid (b=true↔VOk m states n args):=by
        have h:=HB.out;rw[List.take_length] at h;exact h.trans ⟨fun h=>⟨h.1.1.1.1,h.1.1.1.2.1,h.1.1.1.2.2,h.1.1.2,h.1.2,h.2⟩,fun h=>⟨⟨⟨⟨h.run,h.lo,h.hi⟩,h.par⟩,h.st⟩,h.ar⟩⟩
       obtain⟨wz,hwz⟩:∃wz,wz=wr:=⟨_,rfl⟩;subst hwz;clear HB HB2 Hst;have hBz:=HBf.out wz hBr;have hxo:=(hBr.block _ hl2).trans hx2;obtain⟨o0,o1,o2,o3,o4,o5,hol⟩:=A0 hxo;obtain⟨z0,z1,z2,z3,z4,z5⟩:=fz6 hxo;cases b
       ·have hno:¬VOk m states n args:=fun h=>by have:=HV.out.2 h;simp at this
        obtain⟨wN,hWN,hxN,hbN,hlN⟩:=Wd hxo (by omega) hBz (iv 0) (iv 0) (.string ⟨#[]⟩) sZ (iv 40) (iv 0);obtain⟨m0,m1,m2,m3,m4,m5,hmN⟩:=A0 hxN;have hfin:Gb m states n args fuel w (.returned (.tuple #[sZ,.agg #[iv 0,iv 0,.string ⟨#[]⟩,sZ,iv 40,iv 0]])) wN:=⟨[],V.zero,40,0,none,0,none,0,rfl,Or.inl ⟨hno,rfl,rfl,rfl,rfl⟩,Al.nil,Cv,hbN⟩;clear HV Hm Hs Ha Hws Hwa Ht hDo hno hxo hxN hbN;go_wp2_with fail;exact bodyPost_ret (v:=.tuple #[sZ,.agg #[iv 0,iv 0,.string ⟨#[]⟩,sZ,iv 40,iv 0]]) (by simp[results,Tryz.results12,go_sem,hmN,m0,m1,m2,m3,m4,m5]) rfl hfin
       ·have hok:VOk m states n args:=HV.out.1 rfl;clear HV;obtain⟨fu1,Hfu1⟩:∃fu1:Int,Hid ((if fuel<0 then 0 else fuel)=fu1):=⟨_,rfl⟩;obtain⟨fu2,Hfu2⟩:∃fu2:Int,Hid ((if fu1 > 4096 then 4096 else fu1)=fu2):=⟨_,rfl⟩;have hcl:cl15 fuel=fu2:=by
         unfold cl15;rw[<-Hfu2.out,<-Hfu1.out];by_cases hf0:fuel<0
         ·rw[if_pos hf0,if_pos hf0,if_neg (by omega)]
         ·rw[if_neg hf0,if_neg hf0]
        replace hcl:Hid _:=hcl
        go_upto_if 75 with fail
        go_cut [4] from 74 to 75 (fun s wc=>s=iv fu1∧wc=wz)
        case first=>
         by_cases hf0:fuel<0
         ·have e:fu1=0:=by rw[<-Hfu1.out,if_pos hf0]
          subst e;go_wp2_with fail
          go_meet
          exact⟨rfl,rfl⟩
         ·have e:fu1=fuel:=by rw[<-Hfu1.out,if_neg hf0]
          subst e;go_wp2_with fail
          go_meet
          exact⟨rfl,rfl⟩
        case rest=>
         obtain⟨rfl,hwc⟩:=hcut;obtain rfl:=hwc.symm
         go_upto_if 77 with fail
         go_cut [4] from 76 to 77 (fun s wc=>s=iv fu2∧wc=wz)
         case first=>
          by_cases hf1:fu1 > 4096
          ·have e:fu2=4096:=by rw[<-Hfu2.out,if_pos hf1]
           subst e;go_wp2_with fail
           go_meet
           exact⟨rfl,rfl⟩
          ·have e:fu2=fu1:=by rw[<-Hfu2.out,if_neg hf1]
           subst e;go_wp2_with fail
           go_meet
           exact⟨rfl,rfl⟩
         case rest=>
          obtain⟨rfl,hwc⟩:=hcut;obtain rfl:=hwc.symm;have hcl:=hcl.out;clear Hfu1 Hfu2;obtain⟨f,H,G,o,hf,hV0,hpar,hrun⟩:=hok.begin fuel;rw[hcl] at hV0 hrun;obtain⟨c0,c1,-,-⟩:=Hcell.out wz hBr;have hCA:=Di (w:=wz.drew) (((Hs.out.below hBz).below (Af wz 1))) Hws.out (by omega)
          go_upto_region 19 with fail
          go_region_held3 (fun w'=>w'.cell? ⟨w.heap.size,0,none⟩=some (.slice ac m.consts.length cc)∧w'.cell? ⟨w.heap.size,1,none⟩=some (.slice af m.funcs.length cf)) (go_keep)
           ((go_at_call 16;refine hCA.mono ?_;rintro e w5 ⟨⟨a5,c5,rfl,hG5⟩,hb5⟩;replace hb5:=Ad hb5;replace hG5:Gv (From wz.heap.size) w5 (.slice a5 states.length c5) states:=hG5;have hb25:Below w2.heap.size w2 w5:=hBr.trans (hb5.mono hBr.size);obtain⟨n0,n1,-,-⟩:=Hcell.out w5 hb25))
          obtain⟨w6,hW6,hb6,hl6,hx6⟩:=U5 w5 (.slice ac m.consts.length cc) (.slice af m.funcs.length cf) (.slice a5 states.length c5) (iv fu2) (iv 0) 68;have hB5:Below w.heap.size w w5:=hBz.trans (hb5.mono hBz.size);have hB6:Below w.heap.size w w6:=hB5.trans (hb6.mono hB5.size);have s0:=hBz.size;have s5:=hb5.size;have hCB:=Di (w:=w6) (Ha.out.below hB6) Hwa.out (by omega);have Hp:Hid (w5.heap.size=w5.heap.size):=rfl;have hown5:∀k,(Value.slice a5 states.length c5).ownBlock=some k->wz.heap.size<=k∧k<w5.heap.size:=fun k e=>by exact hG5.lt e
          obtain⟨nn,Hnn⟩:∃nn:Nat,Hid (n=(nn:Int)):=⟨n.toNat,by have:=hok.lo;show _=_;omega⟩;have hnt:n.toNat=nn:=by have:=Hnn.out;omega
          rw[hnt] at hf hV0 hrun;have HD:Hid (∀(w7:World) (a7:Option Addr) (c7:Nat),Below w6.heap.size w6 w7->Gv (From w6.heap.size) w7 (.slice a7 args.length c7) args->Calls Tryz.prog 34 #[pt w5.heap.size 0,iv (nn:Int),.slice a7 args.length c7] w7 (Jh w.heap.size w5.heap.size (fun k=>k≠w5.heap.size∧(Value.slice a5 states.length c5).ownBlock≠some k) m (.slice ac m.consts.length cc) (.slice af m.funcs.length cf) (.slice a5 states.length c5) o w7)):=fun w7 a7 c7 hb7 hG7=>by
           have hB7:Below w.heap.size w w7:=hB6.trans (hb7.mono hB6.size);have hp6:w5.heap.size<w6.heap.size:=by have:=Hp.out;omega
           have hO:VmO w.heap.size w5.heap.size (fun k=>k≠w5.heap.size∧(Value.slice a5 states.length c5).ownBlock≠some k) m (.slice ac m.consts.length cc) (.slice af m.funcs.length cf) (.slice a5 states.length c5) states fu2 0 w7:=by
            have hpp:=Hp.out;refine⟨(hb7.block _ hp6).trans hx6,(Hm.out.base (fun k hk hl=>⟨by omega,fun e=>by have:=(hown5 k e).1;omega⟩)).below hB7,?_,Ht.out.mono hB7,by omega,fun k e=>by have:=(hown5 k e).1;omega,fun h=>h.1 rfl,fun k e h=>h.2 e,fun e=>by have:=(hown5 _ e).2;omega,fun k hk=>⟨by have:=hb7.size;omega,fun e=>by have:=(hown5 k e).2;have:=hb7.size;omega⟩⟩;exact ((hG5.base (P':=fun k=>(k≠w5.heap.size∧(Value.slice a5 states.length c5).ownBlock≠some k)∨(Value.slice a5 states.length c5).ownBlock=some k) (fun k hk hl=>by
             by_cases e:(Value.slice a5 states.length c5).ownBlock=some k
             ·exact Or.inr e
             ·exact Or.inl ⟨by omega,e⟩)).below hb6).below hb7
           exact hDo hok.run w5.heap.size G _ _ _ _ nn f H args states a7 c7 fu2 o w7 hO (hG7.vs.base (fun k hk _=>by
            have hk':w6.heap.size<=k:=hk;exact⟨by omega,fun e=>by have:=(hown5 k e).2;omega⟩)) hpar hV0 (by have:=(N7 fuel).2;omega) hrun
          have HR:Hid (∀S v e fl,((o.trap≠0∧S=states∧v=V.zero∧e=o.trap∧fl=o.fuel)∨(o.trap=0∧S=o.sts∧v=o.val∧e=0∧fl=o.fuel))->Dy m states n args fuel S v e fl):=fun S v e fl h=>Or.inr ⟨hok,f,G,o,by rw[hnt];exact hf,by rw[hnt,hcl];exact hrun,h⟩
          have hsafe:o.trap=0->Snd o.val∧Av o.sts∧(o.sts.length:Int)=(states.length:Int):=fun h=>Gq Ce hok.run (Hy hok.run) G hV0.hf hV0.lab hV0.hp hV0.f0 hV0.sloc hV0.ll hV0.sstk hV0.ssts hV0.sl hrun h
          replace hsafe:Hid _:=hsafe;have hnn:=Hnn.out;subst hnn;have hp6:w5.heap.size<w6.heap.size:=by omega
          clear hrun hV0 hpar hf hok hDo hnt c0 c1 hl6 Hp;go_wp2_with fail;refine hCB.mono ?_;rintro e w7 ⟨⟨a7,c7,rfl,hG7⟩,hb7⟩;have hD:=HD.out w7 a7 c7 hb7 hG7;clear HD hCB;go_wp2_with fail;refine hD.mono ?_;rintro e w8 ⟨⟨ao,cap,rfl,hx8⟩,hO8,hf8⟩;have hne:∀k,k<wz.heap.size->k≠w5.heap.size∧(Value.slice a5 states.length c5).ownBlock≠some k:=fun k hk=>⟨by omega,fun e=>by have:=(hown5 k e).1;omega⟩
          have s6:=hb6.size;have s7:=hb7.size;have s8:=hf8.size;have hBz8:Below wz.heap.size wz w8:=(hb5.trans ((hb6.trans (hb7.mono hb6.size)).mono hb5.size)).trans (hf8.below (by omega) hne);have hB8:Below w.heap.size w w8:=hBz.trans (hBz8.mono hBz.size);obtain⟨w9,hW9⟩:∃w9,w8.alloc (.cells #[iv (A9 o).k,iv (A9 o).n,.string ⟨(A9 o).t.toArray⟩,.slice ao (A9 o).l.length cap] 31)=w9:=⟨_,rfl⟩;have hb9:Below w8.heap.size w8 w9:=by rw[<-hW9];exact (Below.refl _ _).alloc (Nat.le_refl _) _
          have hx9:w9.heap[w8.heap.size]?=some (.cells #[iv (A9 o).k,iv (A9 o).n,.string ⟨(A9 o).t.toArray⟩,.slice ao (A9 o).l.length cap] 31):=by rw[<-hW9];exact Ai _ _
          have hBz9:Below wz.heap.size wz w9:=hBz8.trans (hb9.mono hBz8.size);have hB9:Below w.heap.size w w9:=hBz.trans (hBz9.mono hBz.size);have hxo9:=(hBz9.block _ hol).trans hxo;obtain⟨p0,p1,p2,p3,p4,-,-,-,-,-,hpl⟩:=Ak (hO8.mc.below hb9);have hu1:w5.heap.size≠w1.heap.size:=by omega
          have hu2:w1.heap.size≠w5.heap.size:=by omega
          have hol9:w1.heap.size<w9.heap.size:=(Array.getElem?_eq_some_iff.1 hxo9).1;by_cases htr:o.trap=0
          ·have htb:(o.trap != 0)=false:=by simp[htr]
           obtain⟨hs1,hs2,hs3⟩:=hsafe.out htr;have hz:A9 o=o.val:=Gg htr;have hlen:states.length=o.sts.length:=by omega
           have hst9:Al (fun k=>(k≠w5.heap.size∧(Value.slice a5 states.length c5).ownBlock≠some k)∨(Value.slice a5 states.length c5).ownBlock=some k) w9 o.sts (.slice a5 states.length c5):=hO8.st.vs.below hb9;have hCS:Calls Tryz.prog 16 #[.slice a5 states.length c5] w9.drew fun r w'=>(∃a' c',r=.returned (.slice a' states.length c')∧Gv (From w9.drew.heap.size) w' (.slice a' states.length c') o.sts)∧Below w9.drew.heap.size w9.drew w':=by
            rw[hlen] at hst9 ⊢;exact Di (hst9.below (Af w9 1)) (fun x hx=>by have:=(hs2 x hx).1;omega) (by omega)
           have hCV:∀w10,Below w9.heap.size w9 w10->Calls Tryz.prog 17 #[.agg #[iv (A9 o).k,iv (A9 o).n,.string ⟨(A9 o).t.toArray⟩,.slice ao (A9 o).l.length cap]] w10 fun r w'=>D7 w10 (A9 o) r w':=fun w10 h=>Az _ _ _ _ w10 (Nat.lt_succ_self _) (by rw[hz];have:=hs1.1;omega) ((hx8.below hb9).below h)
           obtain⟨v0,v1,v2,v3,-⟩:=Aa hx9;have hv9:w8.heap.size<w9.heap.size:=(Array.getElem?_eq_some_iff.1 hx9).1;have hu3:w8.heap.size≠w1.heap.size:=by omega
           have hu4:w1.heap.size≠w8.heap.size:=by omega
           have hrcell:∀w10,Below w9.heap.size w9 w10->w10.cell? ⟨w5.heap.size,2,none⟩=some (.slice a5 states.length c5)∧w10.cell? ⟨w5.heap.size,3,none⟩=some (iv o.fuel)∧w10.cell? ⟨w8.heap.size,0,none⟩=some (iv (A9 o).k)∧w10.cell? ⟨w8.heap.size,1,none⟩=some (iv (A9 o).n)∧w10.cell? ⟨w8.heap.size,2,none⟩=some (.string ⟨(A9 o).t.toArray⟩)∧w10.cell? ⟨w8.heap.size,3,none⟩=some (.slice ao (A9 o).l.length cap):=fun w10 h=>by
            obtain⟨f9,-⟩:=Ag h;exact⟨(f9 _ _ hpl).trans p2,(f9 _ _ hpl).trans p3,(f9 _ _ hv9).trans v0,(f9 _ _ hv9).trans v1,(f9 _ _ hv9).trans v2,(f9 _ _ hv9).trans v3⟩
           have HZ:Hid (∀(w10:World) (a10:Option Addr) (c10:Nat) (w11:World) (a11:Option Addr) (c11:Nat),Below w9.heap.size w9 w10->Gv (From w9.heap.size) w10 (.slice a10 states.length c10) o.sts->Below w10.heap.size w10 w11->IsW (From w10.heap.size) w11 (A9 o) (.slice a11 (A9 o).l.length c11)->∃wN,(((((w11.setCell ⟨w1.heap.size,0,none⟩ (iv (A9 o).k)).setCell ⟨w1.heap.size,1,none⟩ (iv (A9 o).n)).setCell ⟨w1.heap.size,2,none⟩ (.string ⟨(A9 o).t.toArray⟩)).setCell ⟨w1.heap.size,3,none⟩ (.slice a11 (A9 o).l.length c11)).setCell ⟨w1.heap.size,4,none⟩ (iv 0)).setCell ⟨w1.heap.size,5,none⟩ (iv o.fuel)=wN∧wN.heap[w1.heap.size]?=some (.cells #[iv (A9 o).k,iv (A9 o).n,.string ⟨(A9 o).t.toArray⟩,.slice a11 (A9 o).l.length c11,iv 0,iv o.fuel] 35 (0,0))∧w11.heap[w1.heap.size]?=some (.cells #[iv 0,iv 0,.string ⟨#[]⟩,sZ,iv 0,iv 0] 35 (0,0))∧(wN.cell? ⟨w5.heap.size,2,none⟩=some (.slice a5 states.length c5)∧wN.cell? ⟨w5.heap.size,3,none⟩=some (iv o.fuel)∧wN.cell? ⟨w8.heap.size,0,none⟩=some (iv (A9 o).k)∧wN.cell? ⟨w8.heap.size,1,none⟩=some (iv (A9 o).n)∧wN.cell? ⟨w8.heap.size,2,none⟩=some (.string ⟨(A9 o).t.toArray⟩)∧wN.cell? ⟨w8.heap.size,3,none⟩=some (.slice ao (A9 o).l.length cap))∧Gb m states (nn:Int) args fuel w (.returned (.tuple #[.slice a10 states.length c10,.agg #[iv (A9 o).k,iv (A9 o).n,.string ⟨(A9 o).t.toArray⟩,.slice a11 (A9 o).l.length c11,iv 0,iv o.fuel]])) wN):=fun w10 a10 c10 w11 a11 c11 h1 h2 h3 h4=>by
            have h13:Below w9.heap.size w9 w11:=h1.trans (h3.mono h1.size);have hx11:=(h13.block _ hol9).trans hxo9;obtain⟨wN,e1,e2,e3,e4⟩:=Wd (w:=w) hx11 (by omega) (hB9.trans (h13.mono hB9.size)) (iv (A9 o).k) (iv (A9 o).n) (.string ⟨(A9 o).t.toArray⟩) (.slice a11 (A9 o).l.length c11) (iv 0) (iv o.fuel);have s13:=h13.size;have s1:=h1.size;have hcN:∀g j,g≠w1.heap.size->g<w9.heap.size->wN.cell? ⟨g,j,none⟩=w11.cell? ⟨g,j,none⟩:=fun g j hg hl=>by
             have:=e4.block g hg (by omega);simp[World.cell?,this]
            obtain⟨r2,r3,r4,r5,r6,r7⟩:=hrcell w11 h13;refine⟨wN,e1,e2,hx11,⟨(hcN _ _ hu1 hpl).trans r2,(hcN _ _ hu1 hpl).trans r3,(hcN _ _ hu3 hv9).trans r4,(hcN _ _ hu3 hv9).trans r5,(hcN _ _ hu3 hv9).trans r6,(hcN _ _ hu3 hv9).trans r7⟩,o.sts,A9 o,0,o.fuel,a10,c10,a11,c11,by rw[hlen],HR.out _ _ _ _ (Or.inr ⟨htr,rfl,hz,rfl,rfl⟩),?_,?_,e3⟩
            ·rw[<-hlen];exact ((h2.vs.below h3).since ⟨e4.size,fun k hk hl=>e4.block k (by have hk':w9.heap.size<=k:=hk;show k≠_;omega) hl⟩).base (fun k hk _=>by have hk':w9.heap.size<=k:=hk;have:=hB9.size;show w.heap.size<=k;omega)
            ·exact (h4.since ⟨e4.size,fun k hk hl=>e4.block k (by have hk':w10.heap.size<=k:=hk;show k≠_;omega) hl⟩).base (fun k hk _=>by have hk':w10.heap.size<=k:=hk;have:=hB9.size;show w.heap.size<=k;omega)
           obtain⟨i2,i3,i4,i5,i6,i7⟩:=hrcell w9 (Below.refl _ _);clear hsafe HR hO8 hf8 hx8 hx9 hD hG7 hG5 hown5 hne hxo hxo9 hx6 Hs Ha Hws Hwa Hm Ht Hcell HBf hst9 hs1 hs2 hs3 hz hlen htr v0 v1 v2 v3;generalize A9 o=vo at *;go_wp2_with fail;go_region_held3 (fun w'=>w'.cell? ⟨w5.heap.size,2,none⟩=some (.slice a5 states.length c5)∧w'.cell? ⟨w5.heap.size,3,none⟩=some (iv o.fuel)∧w'.cell? ⟨w8.heap.size,0,none⟩=some (iv vo.k)∧w'.cell? ⟨w8.heap.size,1,none⟩=some (iv vo.n)∧w'.cell? ⟨w8.heap.size,2,none⟩=some (bz vo.t)∧w'.cell? ⟨w8.heap.size,3,none⟩=some (.slice ao vo.l.length cap)) (go_keep)
            ((first | (go_at_call 16;refine hCS.mono ?_;rintro e w10 ⟨⟨a10,c10,rfl,hG10⟩,hb10⟩;replace hb10:=Ad hb10;replace hG10:Gv (From w9.heap.size) w10 (.slice a10 states.length c10) o.sts:=hG10;obtain⟨q2,q3,q4,q5,q6,q7⟩:=hrcell w10 hb10) | (go_at_call 17;refine (hCV _ hb10).mono ?_;rintro e w11 ⟨⟨a11,c11,rfl,hx11,-⟩,hb11⟩;have hb19:=hb10.trans (hb11.mono hb10.size);obtain⟨t2,t3,t4,t5,t6,t7⟩:=hrcell w11 hb19;obtain⟨wN,hWN,hxN,hx12,⟨k2',k3',k4',k5',k6',k7'⟩,hfin⟩:=HZ.out w10 a10 c10 w11 a11 c11 hb10 hG10 hb11 hx11;obtain⟨b0,b1,b2,b3,b4,b5,hbl⟩:=A0 hx12;obtain⟨y0,y1,y2,y3,y4,y5⟩:=fz6 hx12)))
           obtain⟨m0,m1,m2,m3,m4,m5,hmN⟩:=A0 hxN;go_wp2_with fail;exact bodyPost_ret (v:=.tuple #[.slice a10 states.length c10,.agg #[iv vo.k,iv vo.n,bz vo.t,.slice a11 vo.l.length c11,iv 0,iv o.fuel]]) (by simp[results,Tryz.results12,go_sem,hmN,m0,m1,m2,m3,m4,m5]) rfl hfin
          ·have htb:(o.trap != 0)=true:=by simpa using htr
           have hCS:=Di (w:=w9.drew) ((Hs.out.below hB9).below (Af w9 1)) Hws.out (by omega);have HZ:Hid (∀(w10:World) (a10:Option Addr) (c10:Nat),Below w9.heap.size w9 w10->Gv (From w9.heap.size) w10 (.slice a10 states.length c10) states->∃wN,(((((w10.setCell ⟨w1.heap.size,0,none⟩ (iv 0)).setCell ⟨w1.heap.size,1,none⟩ (iv 0)).setCell ⟨w1.heap.size,2,none⟩ (.string ⟨#[]⟩)).setCell ⟨w1.heap.size,3,none⟩ sZ).setCell ⟨w1.heap.size,4,none⟩ (iv o.trap)).setCell ⟨w1.heap.size,5,none⟩ (iv o.fuel)=wN∧wN.heap[w1.heap.size]?=some (.cells #[iv 0,iv 0,.string ⟨#[]⟩,sZ,iv o.trap,iv o.fuel] 35 (0,0))∧w10.heap[w1.heap.size]?=some (.cells #[iv 0,iv 0,.string ⟨#[]⟩,sZ,iv 0,iv 0] 35 (0,0))∧(wN.cell? ⟨w5.heap.size,4,none⟩=some (iv o.trap)∧wN.cell? ⟨w5.heap.size,3,none⟩=some (iv o.fuel))∧Gb m states (nn:Int) args fuel w (.returned (.tuple #[.slice a10 states.length c10,.agg #[iv 0,iv 0,.string ⟨#[]⟩,sZ,iv o.trap,iv o.fuel]])) wN):=fun w10 a10 c10 h1 h2=>by
            have hx10:=(h1.block _ hol9).trans hxo9;obtain⟨wN,e1,e2,e3,e4⟩:=Wd (w:=w) hx10 (by omega) (hB9.trans (h1.mono hB9.size)) (iv 0) (iv 0) (.string ⟨#[]⟩) sZ (iv o.trap) (iv o.fuel);have hcN:∀j,wN.cell? ⟨w5.heap.size,j,none⟩=w10.cell? ⟨w5.heap.size,j,none⟩:=fun j=>by
             have:=e4.block w5.heap.size hu1 (by have:=h1.size;omega);simp[World.cell?,this]
            obtain⟨f9,-⟩:=Ag h1;refine⟨wN,e1,e2,hx10,⟨(hcN 4).trans ((f9 _ _ hpl).trans p4),(hcN 3).trans ((f9 _ _ hpl).trans p3)⟩,states,V.zero,o.trap,o.fuel,a10,c10,none,0,rfl,HR.out _ _ _ _ (Or.inl ⟨htr,rfl,rfl,rfl,rfl⟩),?_,Cv,e3⟩;exact (h2.vs.since ⟨e4.size,fun k hk hl=>e4.block k (by have hk':w9.heap.size<=k:=hk;show k≠_;omega) hl⟩).base (fun k hk _=>by have hk':w9.heap.size<=k:=hk;have:=hB9.size;show w.heap.size<=k;omega)
           have hrcell:∀w10,Below w9.heap.size w9 w10->w10.cell? ⟨w5.heap.size,4,none⟩=some (iv o.trap)∧w10.cell? ⟨w5.heap.size,3,none⟩=some (iv o.fuel):=fun w10 h=>by
            obtain⟨f9,-⟩:=Ag h;exact⟨(f9 _ _ hpl).trans p4,(f9 _ _ hpl).trans p3⟩
           clear hsafe HR hO8 hf8 hx8 hx9 hD hG7 hG5 hown5 hne hxo hxo9 hx6 Hs Ha Hws Hwa Hm Ht Hcell HBf;go_wp2_with fail;go_region_held3 (fun w'=>w'.cell? ⟨w5.heap.size,4,none⟩=some (iv o.trap)∧w'.cell? ⟨w5.heap.size,3,none⟩=some (iv o.fuel)) (go_keep)
            ((go_at_call 16;refine hCS.mono ?_;rintro e w10 ⟨⟨a10,c10,rfl,hG10⟩,hb10⟩;replace hb10:=Ad hb10;replace hG10:Gv (From w9.heap.size) w10 (.slice a10 states.length c10) states:=hG10;obtain⟨g4,g3⟩:=hrcell w10 hb10;obtain⟨wN,hWN,hxN,hx10,⟨t4,t3⟩,hfin⟩:=HZ.out w10 a10 c10 hb10 hG10;obtain⟨b0,b1,b2,b3,b4,b5,hbl⟩:=A0 hx10;obtain⟨y0,y1,y2,y3,y4,y5⟩:=fz6 hx10))
           obtain⟨m0,m1,m2,m3,m4,m5,hmN⟩:=A0 hxN;go_wp2_with fail;exact bodyPost_ret (v:=.tuple #[.slice a10 states.length c10,.agg #[iv 0,iv 0,.string ⟨#[]⟩,sZ,iv o.trap,iv o.fuel]]) (by simp[results,Tryz.results12,go_sem,hmN,m0,m1,m2,m3,m4,m5]) rfl hfin
end
end Go.Proofs.YtnijcolomoobnaaGreatDoor
