import Derived.Test.YtoijpogadkogcaaGreatRu
import Derived.Test.YtoijpogadkogcaaGreatRr
import Derived.Deep.RegionHeld3
namespace Go.Proofs.YtoijpogadkogcaaGreat
open Go.RowKit
set_option maxRecDepth 100000
def HA(M:Nat)(wb:World)(gl:Nat)(i j:Nat)(w:World):Prop:=zbz wb gl false 2 (M+80000*j) (300*i) (4+300*i) zkb w
theorem zzbmx{M:Nat}{wb w:World}{gl i j:Nat}(h:HA M wb gl i (j+1) w)(hM:100<=M)(hij:i+(j+1)=120)(x0 x1 x2 x3:Int)(h0:In64 x0)(h1:In64 x1)(h2:In64 x2)(h3:In64 x3) :
  Calls Tryz.prog 12 #[.pointer (some ⟨gl,0,none⟩),.agg #[.int .i64 x0,.int .i64 x1,.int .i64 x2,.int .i64 x3],.bool false] w λe w'=>e = .returned (.bool true)/\HA M wb gl (i+1) j w':=by
 refine(zzbcp (m:=M+80000*j) (h.less (by omega)) zkb.stable (λ_ _ _ _ _ => .inr (by omega)) (by omega) (by omega) (by omega) x0 x1 x2 x3 h0.1 h0.2 h1.1 h1.2 h2.1 h2.2 h3.1 h3.2 (L':=300*(i+1)) (by omega) (.inr ⟨λ_ _ _ _=>trivial,by omega⟩)).mono ?_;rintro e w' ⟨q1,q2⟩;exact⟨q1,q2.fitQ (Nat.le_refl _) (Nat.le_refl _) (by omega)⟩
def HR(wb:World)(gl r:Nat)(w:World):Prop:=zbz wb gl false 2 40000000 (if r=0 then 36000 else 0) 40004 (AQ r) w
theorem r_up{wb w:World}{gl r:Nat}(h:HR wb gl r w):Calls Tryz.prog 13 #[.pointer (some ⟨gl,0,none⟩),.bool true,.int .i64 1099511627776,.int .i64 1099511627776,.int .i64 1099511627776] w λe w'=>e = .returned (.tuple #[])/\zyg wb gl false r 37000000 (if r=0 then 36000 else 0) 40004 w' :=
 a_up h (by split<;>omega) (λq=>if_neg (by omega)) 1099511627776 rfl
theorem zzbmy{wb w:World}{gl r:Nat}(h:zyg wb gl false r 37000000 (if r=0 then 36000 else 0) 40004 w)(hr:r<150):Calls Tryz.prog 13 #[.pointer (some ⟨gl,0,none⟩),.bool false,.int .i64 1099511627776,.int .i64 1099511627776,.int .i64 1099511627776] w λe w'=>e = .returned (.tuple #[])/\zbz wb gl false 2 40000000 0 40004 (PQ (r+1) 0) w' :=
 zzbmv h (by split<;>omega) hr 1099511627776 rfl
theorem zzbml{M:Nat}{wb w:World}{gl i j:Nat}(hM:M=40400000)(h:HA M wb gl i j w)(hij:i+j=120):HR wb gl 0 w:=by subst hM;exact zzbmj (h.fitQ (Nat.le_refl _) (show 300*i<=36000 by omega) (show 4+300*i<=40004 by omega)) (by omega)
def HK(wb:World)(gl nl r k j:Nat)(w:World):Prop:=zcm nl wb gl false 2 (39000000+6*j) 0 40004 (PQ r k) w
theorem zzbmm{wb w:World}{gl nl r k j:Nat}(h:HK wb gl nl r k (j+1) w)(hk:k<nl):Calls Tryz.prog 14 #[.pointer (some ⟨gl,0,none⟩),.int .i64 (k:Int),.bool true,.int .i64 1000] w λe w'=>e = .returned (.bool true)/\zcm nl wb gl false 2 (39000000+6*j+3) 0 40004 (PX r k) w' :=
 zzbmg (m:=39000000+6*j+3) h (by omega) (by omega) hk
theorem zzbkv{wb w:World}{gl nl r k j:Nat}(h:zcm nl wb gl false 2 (39000000+6*j+3) 0 40004 (PX r k) w)(hk:k<nl):Calls Tryz.prog 14 #[.pointer (some ⟨gl,0,none⟩),.int .i64 (k:Int),.bool false,.int .i64 1000] w λe w'=>e = .returned (.bool true)/\HK wb gl nl r (k+1) j w' :=
 zzbmh (m:=39000000+6*j) h (by omega) (by omega) hk
theorem zzbmz{wb w:World}{gl nl r:Nat}(h:HK wb gl nl r nl 0 w)(hr:r<=150)(h1:1<=r):HR wb gl r w:=by unfold HR;rw[if_neg (by omega)];exact zzbmi h hr
def HE(wb:World)(gl nl j:Nat)(w:World):Prop:=zcm nl wb gl false 2 (30000000+3*j) 0 40004 FQ w
theorem zcm.lessN{nl:Nat}{wb w:World}{gl:Nat}{lv:Bool}{p m m' L S:Nat}{Q:Ds->Ds->List Line->Res->Prop}(h:zcm nl wb gl lv p m L S Q w)(hm:m'<=m):zcm nl wb gl lv p m' L S Q w:=h.less hm
theorem r_end{wb w:World}{gl:Nat}(h:HR wb gl 150 w):∃ nl,HE wb gl nl (2*nl) w/\Lines gl nl w:=by have h':zbz wb gl false 2 40000000 0 40004 (AQ 150) w:=h;obtain⟨nl,q1,q2⟩:=(a_fin h' (by omega) rfl).num;obtain⟨al,ol,cl,g4,h1,h99⟩:=q2;exact⟨nl,q1.lessN (by omega),al,ol,cl,g4,h1,h99⟩
set_option maxHeartbeats 12800000 in
theorem zzbcw(streams:Int)(v:Value)(w:World)(h1:-9223372036854775808<=streams)(h2:streams<=9223372036854775807)(hv:zvy w v) :
  Calls Tryz.prog 6 #[.int .i64 streams,v] w λe w'=>e = .returned (.bool true)/\Ext w w':=by
 obtain⟨a,n,cap,rfl,hn1,hn2,hs⟩:=hv;obtain⟨M,hM⟩:∃ M,M=40400000:=⟨_,rfl⟩;have kj:=zzbcq streams w h1 h2;have HS:=hide hs;have HM:=hide hM;have hn3:n<=9223372036854775807:=by unfold maxLen at hn2;omega
 clear hs h1 h2 hn1 hn2 hM
 go_enter Tryz.func6,Tryz.ntmps6
 go_wp2_with fail
 refine kj.mono ?_;rintro e w1 ⟨gl,rfl,hC⟩;have HC:Hid (HA M w gl 0 120 w1):=(hC.any (Q':=zkb) (λ_ _ _ _ _=>trivial)).less (by have:=HM.out;omega);clear kj hC
 go_upto_block 0 with fail
 go_cut [6,7] from 22 to 39 (λ_ _ wx=>Hid (HR w gl 0 wx))
 case first =>
  go_wp2
  go_loopw [6] (λs6 wr => ∃ i j:Nat,i+j=120/\i<=n/\s6 = .int .i64 (i:Int)/\Hid (HA M w gl i j wr)) (λs6 _=>120-(intOf s6).toNat)
  case atStart=>exact⟨0,120,rfl,Nat.zero_le _,rfl,HC⟩
  case round =>
   obtain⟨i,j,hij,hin,rfl,H1⟩:=hrel;clear HC;by_cases hlt:i<n/\i<120
   ·obtain⟨hl1,hl2⟩:=hlt;obtain⟨j,rfl⟩:∃ j',j=j'+1:=⟨j-1,by omega⟩;obtain⟨b,o,ha,x0,x1,x2,x3,b0,b1,b2,b3,y0,y1,y2,y3⟩:∃ b o,a=some ⟨b,o,none⟩ /\ ∃ x0 x1 x2 x3:Int,In64 x0/\In64 x1/\In64 x2/\In64 x3/\w.cell? ⟨b,o+i*4,none⟩=some (.int .i64 x0)/\w.cell? ⟨b,o+i*4+1,none⟩=some (.int .i64 x1)/\w.cell? ⟨b,o+i*4+2,none⟩=some (.int .i64 x2)/\w.cell? ⟨b,o+i*4+3,none⟩=some (.int .i64 x3):=by
     rcases HS.out with h0|⟨b,o,e,h⟩
     ·omega
     ·exact⟨b,o,e,h i hl1⟩
    subst ha;have hl1':(i:Int)<(n:Int):=by omega
    have hl2':(i:Int)<120:=by omega
    have hE2:Ext w wr:=zbz.base H1.out;have z0:=hE2.cell y0;have z1:=hE2.cell y1;have z2:=hE2.cell y2;have z3:=hE2.cell y3;have k2:=zzbmx H1.out (by have:=HM.out;omega) hij x0 x1 x2 x3 b0 b1 b2 b3;clear H1 hE2 y0 y1 y2 y3 b0 b1 b2 b3
    go_wp2_with fail
    refine k2.mono ?_;rintro e w3 ⟨rfl,hC3⟩;have HC3:=hide hC3;clear hC3 k2 z0 z1 z2 z3
    go_wp2
    go_roundw
    case rel=>exact⟨i+1,j,by omega,by omega,by go_num,HC3⟩
    case measure=>simp[intOf];omega
   ·have HR0:=hide (zzbml HM.out H1.out hij);clear H1;by_cases hl1:i<n
    ·have hl2:¬ (i:Int)<120:=by omega
     have hl1':(i:Int)<(n:Int):=by omega
     go_wp2
     go_meet
     exact HR0
    ·have hl1':¬ (i:Int)<(n:Int):=by omega
     go_wp2
     go_meet
     exact HR0
 case rest =>
  have HR0:=hcut;clear HC hcut
  go_wp2
  go_loopw [8] (λs8 wr => ∃ r:Nat,r<=150/\s8 = .int .i64 (r:Int)/\Hid (HR w gl r wr)) (λs8 _=>150-(intOf s8).toNat)
  case atStart=>exact⟨0,by omega,rfl,HR0⟩
  case round =>
   obtain⟨r,hr,rfl,H1⟩:=hrel;clear HR0;by_cases hlt:r<150
   ·have hlt':(r:Int)<150:=by omega
    have kU:=r_up H1.out;clear H1
    go_wp2_with fail
    refine kU.mono ?_;rintro e w2 ⟨rfl,hV⟩;have kD:=zzbmy hV hlt;clear hV kU
    go_wp2_with fail
    refine kD.mono ?_;rintro e w3 ⟨rfl,hP⟩;obtain⟨nl,hN,hL⟩:=hP.num;obtain⟨-,-,-,-,h1l,hnl⟩:=hL;have H0:Hid (HK w gl nl (r+1) 0 nl w3):=hN.lessN (by omega);clear hP hN kD
    go_wp2
    go_loopw [9] (λs9 wq => ∃ k j:Nat,k+j=nl/\s9 = .int .i64 (k:Int)/\Hid (HK w gl nl (r+1) k j wq)) (λs9 _=>nl-(intOf s9).toNat)
    case atStart=>exact⟨0,nl,by omega,rfl,H0⟩
    case round =>
     obtain⟨k,j,hkj,rfl,H2⟩:=hrel;clear H0;obtain⟨al,ol,cl,g4,-,-⟩:=zcm.lines H2.out;by_cases hk:k<nl
     ·obtain⟨j,rfl⟩:∃ j',j=j'+1:=⟨j-1,by omega⟩;have hk':(k:Int)<(nl:Int):=by omega
      have kX:=zzbmm H2.out hk;clear H2
      go_wp2_with fail
      refine kX.mono ?_;rintro e w4 ⟨rfl,hX⟩;have kY:=zzbkv hX hk;clear hX kX g4
      go_wp2_with fail
      refine kY.mono ?_;rintro e w5 ⟨rfl,hY⟩;have HY:=hide hY;clear hY kY
      go_wp2
      go_roundw
      case rel=>exact⟨k+1,j,by omega,by go_num,HY⟩
      case measure=>simp[intOf];omega
     ·have hk':¬ (k:Int)<(nl:Int):=by omega
      obtain rfl:j=0:=by omega
      obtain rfl:k=nl:=by omega
      have HN:=hide (zzbmz H2.out (by omega) (by omega));clear H2
      go_wp2
      go_roundw
      case rel=>exact⟨r+1,by omega,by go_num,HN⟩
      case measure=>simp[intOf];omega
   ·have hlt':¬ (r:Int)<150:=by omega
    obtain rfl:r=150:=by omega
    obtain⟨nl,hE,hL⟩:=r_end H1.out;obtain⟨-,-,-,-,h1l,hnl⟩:=hL;have H0:=hide hE;clear hE H1
    go_wp2
    go_loopw [12] (λs12 wq => ∃ k j:Nat,k+j=nl/\s12 = .int .i64 (k:Int)/\Hid (HE w gl nl (2*j) wq)) (λs12 _=>nl-(intOf s12).toNat)
    case atStart=>exact⟨0,nl,by omega,rfl,H0⟩
    case round =>
     obtain⟨k,j,hkj,rfl,H2⟩:=hrel;clear H0;obtain⟨al,ol,cl,g4,-,-⟩:=zcm.lines H2.out;by_cases hk:k<nl
     ·obtain⟨j,rfl⟩:∃ j',j=j'+1:=⟨j-1,by omega⟩;have hk':(k:Int)<(nl:Int):=by omega
      have H3:Hid (HE w gl nl (2*j+2) wr):=H2.out;clear H2
      go_wp2
      go_loopw [13] (λs13 wq => ∃ sd z:Nat,sd+z=2/\s13 = .int .i64 (sd:Int)/\Hid (HE w gl nl (2*j+z) wq)) (λs13 _=>2-(intOf s13).toNat)
      case atStart=>exact⟨0,2,rfl,rfl,H3⟩
      case round =>
       obtain⟨sd,z,hz,rfl,H4⟩:=hrel;clear H3 g4;by_cases hs2:sd<2
       ·obtain⟨z,rfl⟩:∃ z',z=z'+1:=⟨z-1,by omega⟩;have hs2':(sd:Int)<2:=by omega
        obtain⟨c,hc⟩:∃ c:Bool,((sd:Int) == 0)=c:=⟨_,rfl⟩;obtain⟨gx,gy,vu,vd,al,ol,cl,ls,xs,hlen,hF⟩:=zzbmk H4.out;have hF':zhm w gl false gx gy vu vd (.slice (some ⟨al,ol,none⟩) ls.length cl) ls xs 40004 (30000000+3*(2*j+z)+3) wr:=hF;obtain⟨t,ht⟩:∃ t,ls[k]? = some t:=⟨_,List.getElem?_eq_getElem (by omega)⟩;obtain⟨rdq,i1,i2⟩:=hF.read ht c;have HT:=hide ht;have HF:=hide hF';have HLN:=hide hlen;obtain⟨p0,p1,p4,pid,-,-,-⟩:=hF.cells ht c;rw[hlen] at p4;have kw:=zfn al (ol+k*10) c wr;obtain⟨id,hid⟩:∃ id,t.id=id:=⟨_,rfl⟩;rw[hid] at i1 i2;have HID:=hide hid;have HRQ:=hide rdq;have hk0:(0:Int)<=(k:Int):=by omega
        clear hF hF' ht hlen hid rdq H4 p0 p1 pid
        go_wp2_with fail
        refine kw.mono ?_;rintro e w1 ⟨rfl,hE1⟩;have hF1:=HF.out.ext hE1;obtain⟨p0,p1,p4',pid,-,-,-⟩:=hF1.cells HT.out c;rw[HLN.out] at p4';rw[HID.out] at pid;have q0:w1.drew.cell? ⟨gl,0,none⟩=some (.pointer (some ⟨gx,0,none⟩)):=p0;have q1:w1.drew.cell? ⟨gl,1,none⟩=some (.pointer (some ⟨gy,0,none⟩)):=p1;have q4:w1.drew.cell? ⟨gl,4,none⟩=some (.slice (some ⟨al,ol,none⟩) nl cl):=p4';have q5:w1.drew.cell? ⟨al,ol+k*10,none⟩=some (.int .i64 (id:Int)):=pid;have ke:=zdl c w1.drew q0 q1;have kR:=zzbmw (m:=30000000+3*(2*j+z)) c (hF1.ext (Ext.refl w1).drew) HT.out (by omega);rw[HID.out] at kR;have HKC:Hid (∀ W,zhm w gl false gx gy vu vd (.slice (some ⟨al,ol,none⟩) ls.length cl) ls xs 40004 (30000000+3*(2*j+z)) W->W.cell? ⟨gl,4,none⟩=some (.slice (some ⟨al,ol,none⟩) nl cl)/\W.cell? ⟨al,ol+k*10,none⟩=some (.int .i64 (id:Int))):=λW q=>by obtain⟨-,-,r4,r5,-⟩:=q.cells HT.out c;rw[HLN.out] at r4;rw[HID.out] at r5;exact⟨r4,r5⟩
        generalize hge:(if c then gx else gy)=ge at *;obtain⟨er,her⟩:∃ er:Nat,(if (t.inn c).ended=true then 8 else 0)=er:=⟨_,rfl⟩;rw[her] at kR;have HER:=hide her;generalize hfo:ol+k*10+wo c=fo at *;generalize hfi:ol+k*10+wi c=fi at *;have HFI:=hide hfi;clear kw hE1 hF1 p0 p1 p4' pid p4 her hge q0 q1 hfo hfi HF
        go_upto_region 29 with fail
        go_cut [16,17] from 94 to 109 (λs16 s17 wx => ∃ (a5:Option Addr) (cap5:Nat),s16 = .slice a5 0 cap5/\s17 = .int .i64 (er:Int)/\Hid (zhm w gl false gx gy vu vd (.slice (some ⟨al,ol,none⟩) ls.length cl) ls xs 40004 (30000000+3*(2*j+z)) wx))
        case first =>
         go_region_held3 (λwx=>wx.cell? ⟨gl,4,none⟩=some (.slice (some ⟨al,ol,none⟩) nl cl)/\wx.cell? ⟨al,ol+k*10,none⟩=some (.int .i64 (id:Int))) (go_keep)
          (first
          | (go_at_call 16;refine ke.mono ?_;rintro e w0 ⟨rfl,hw⟩;replace hw:=hw.symm;subst hw)
          | (go_at_call 17;refine kR.mono ?_;rintro e w2 ⟨a5,cap5,rfl,hh⟩;have HH2:=hide hh;obtain⟨t4,t5⟩:=HKC.out w2 hh;clear hh))
         all_goals
          go_wp2_with fail
          go_meet
          exact⟨a5,cap5,rfl,rfl,HH2⟩
        case rest =>
         obtain⟨a5,cap5,rfl,rfl,HH2⟩:=hcut;obtain⟨-,-,-,-,d1,d2,a6,cap6,d3⟩:=HH2.out.cells HT.out c;rw[<-HRQ.out] at d3;rw[HFI.out] at d1 d2 d3;have her:=HER.out;generalize (t.inn c).ended=en at *;generalize (t.inn c).read=rd at *;have m1:∀ q,(wc.drewN q).cell? ⟨al,fi+1,none⟩=some (.int .i64 (rd:Int)):=λq=>d1;have m2:∀ q,(wc.drewN q).cell? ⟨al,fi+2,none⟩=some (.bool en):=λq=>d2;have m3:∀ q,(wc.drewN q).cell? ⟨al,fi,none⟩=some (.slice a6 rd cap6):=λq=>d3;have HHE:Hid (∀ q,HE w gl nl (2*j+z) (wc.drewN q)):=λq=>by
          have:=(HH2.out.ext (zay wc q)).hold
          rw[HLN.out] at this;exact this
         clear kR ke HKC HH2 HER HRQ HFI HLN HT HID q4 q5;cases en
         ·obtain rfl:er=0:=by rw[<-her];rfl
          clear her
          go_wp2_with fail
          go_quiet (fail)
          all_goals
           go_wp2
           go_roundw
           case rel=>exact⟨sd+1,z,by omega,by go_num,HHE.out _⟩
           case measure=>simp[intOf];omega
         ·obtain rfl:er=8:=by rw[<-her];rfl
          clear her
          go_wp2_with fail
          go_quiet (fail)
          all_goals
           go_wp2
           go_roundw
           case rel=>exact⟨sd+1,z,by omega,by go_num,HHE.out _⟩
           case measure=>simp[intOf];omega
       ·have hs2':¬ (sd:Int)<2:=by omega
        obtain rfl:z=0:=by omega
        have H5:Hid (HE w gl nl (2*j) wr):=H4.out;clear H4
        go_wp2
        go_roundw
        case rel=>exact⟨k+1,j,by omega,by go_num,H5⟩
        case measure=>simp[intOf];omega
     ·have hk':¬ (k:Int)<(nl:Int):=by omega
      have k1:=zzbme (zbz.any (zcm.hold H2.out) (Q':=zkb) (λ_ _ _ _ _=>trivial));clear H2
      go_wp2_with fail
      refine k1.mono ?_;rintro e w3 ⟨rfl,hC3⟩;have HB:Hid (Ext w w3):=zbz.base hC3;clear hC3 k1
      go_wp2
      go_ret
      exact⟨rfl,HB.out⟩
end Go.Proofs.YtoijpogadkogcaaGreat
