import Derived.Test.YtoijpogadkogcaaGreatRq
import Derived.Test.YtoijpogadkogcaaGreatRp
import Derived.ProofKit
import Derived.OpenShut
import Derived.ShutString
import Derived.ChangeOld
import Derived.Below
import Derived.Carry
import Derived.Deep.Slices
namespace Go.Proofs.YtoijpogadkogcaaGreat
open Go.RowKit
set_option maxRecDepth 100000
def QS (side:Nat) (d e:Ds):Prop:=(1≤side→d.ev=[])∧(2≤side→e.ev=[])
section
variable {wb w:World} {gl:Nat} {lv:Bool} {p m L S:Nat}
set_option maxHeartbeats 25600000 in
theorem zzbgf (h:Hold wb gl lv p m L S AnyEv w) :
  Calls Tryz.prog 18 #[.pointer (some ⟨gl,0,none⟩)] w fun e w'=>e = .returned (.bool true)∧Hold wb gl lv p m L S NoEv w':=by
 have HH:Hid (Hold wb gl lv p m L S (QS 0) w):=by
  obtain ⟨own,gx,gy,dx,dy,vu,vd,vl,up,down,ls,xs,h1,h2,h3,h4,h5,h6,h7⟩:=h;exact ⟨own,gx,gy,dx,dy,vu,vd,vl,up,down,ls,xs,h1,h2,h3,h4,h5,h6,fun q=>absurd q (by omega),fun q=>absurd q (by omega)⟩
 clear h
 go_enter Tryz.func18,Tryz.ntmps18
 go_wp2
 go_loopw [3,4] (fun s3 s4 wr=>s3 = .bool true ∧ ∃ side:Nat,side≤2∧s4 = .int .i64 (side:Int)∧Hid (Hold wb gl lv p m L S (QS side) wr)) (fun _ s4 _=>2 - (intOf s4).toNat)
 case atStart=>exact ⟨rfl,0,by omega,rfl,HH⟩
 case round =>
  obtain ⟨rfl,side,hs2,rfl,H1⟩:=hrel;clear HH;by_cases hlt:side < 2
  ·obtain ⟨own,gx,gy,dx,dy,vu,vd,vl,up,down,ls,xs,h1,h2,h3,h4,h5,h6,h7⟩:=H1.out;obtain ⟨c,hc⟩:∃ c:Bool,((side:Int) == 0)=c:=⟨_,rfl⟩;have hcs:(c=true→side=0)∧(c=false→side=1):=by
    rw [← hc];constructor
    ·intro q; have:=eq_of_beq q; omega
    ·intro q; have:¬ (side:Int)=0:=by simpa using q
     omega
   have kE:=zav (gl:=gl) (gx:=gx) (gy:=gy) c wr (h2.cc h1 0) (h2.cc h1 1);have kV:=zzbes c h1 h2 h3 h5;obtain ⟨T1,T2,T3⟩:=h6.heard c;have HQ:Hid (QS (side+1) (askX c dx) (askY c dy)):=by
    cases c
    ·have:=hcs.2 rfl
     subst this;exact ⟨fun _=>h7.1 (by omega),fun _=>rfl⟩
    ·have:=hcs.1 rfl
     subst this;exact ⟨fun _=>rfl,fun q=>absurd q (by omega)⟩
   obtain ⟨n,hn⟩:∃ n,n=ls.length:=⟨_,rfl⟩;have KH:Hid (∀ (al ol cl:Nat) (ve:Value) (ls':List Line) (w':World) (id:Nat),HS wb gl gx gy (askX c dx) (askY c dy) vu vd al ol cl up down lv ve (pickD c dx dy).ev n ls' none w'→id≤65535→Calls Tryz.prog 31 #[.pointer (some ⟨if c then gx else gy,0,none⟩),.int .i64 (id:Int)] w' fun e w'' => ∃ (a:Option Addr) (k:Nat) (er:Int) (hm:Hdrs),e = .returned (.tuple #[.slice a hm.length k,.int .i64 er])∧HS wb gl gx gy (askX c dx) (askY c dy) vu vd al ol cl up down lv ve (pickD c dx dy).ev n ls' (some (.slice a hm.length k,hm)) w''∧(((pickD c dx dy).asked.headers? (id:Int)=none∧hm=[])∨((pickD c dx dy).asked.headers? (id:Int)=some hm∧er=0))):=fun al ol cl ve ls' w' id h hid=>by
    have q:=zzbcy c h (by rw [zvk]; exact T3) id hid;rw [zvk] at q;exact q
   obtain ⟨ge,hge⟩:∃ g,(if c then gx else gy)=g:=⟨_,rfl⟩;obtain ⟨dX,hdX⟩:∃ d,askX c dx=d:=⟨_,rfl⟩;obtain ⟨dY,hdY⟩:∃ d,askY c dy=d:=⟨_,rfl⟩;obtain ⟨D,hD⟩:∃ d,(pickD c dx dy).asked=d:=⟨_,rfl⟩;obtain ⟨ev,hev⟩:∃ l,(pickD c dx dy).ev=l:=⟨_,rfl⟩;obtain ⟨ne,hne⟩:∃ k,ev.length=k:=⟨_,rfl⟩;rw [hge,← hn,hdX,hdY,hev,hne] at kV;rw [hge] at kE;rw [hge,hdX,hdY,hev,hD] at KH;rw [hdX,hdY] at HQ;rw [hdX,hdY,hev] at T1;rw [hD,hev] at T2;have HT1:=hide T1;have HT2:=hide T2;have HSB:=hide h4;have HND:=hide h6.nodup;have HN:=hide hn;have HNE:=hide hne;have hn1:1≤n:=by omega
   have hn99:n≤99:=by have:=h6.newStr.2; omega
   have hneb:ne≤68719476736:=by have:=T2.1; omega
   have hlt':(side:Int) < 2:=by omega
   clear h1 h2 h3 h4 h5 h6 h7 hcs T1 T2 T3 hge hdX hdY hD hev hne hn H1
   go_wp2_with fail
   refine kE.mono ?_;rintro e w0 ⟨rfl,hw⟩;replace hw:=hw.symm;subst hw;clear kE
   go_wp2_with fail
   refine kV.mono ?_;rintro e w2 ⟨a,kc,al,ol,cl,rfl,hnn,hS2⟩;have H2:=hide hS2;have HNN:=hide hnn;clear kV hS2 hnn
   go_wp2
   go_loopw [3,7] (fun s3 s7 wz=>s3 = .bool true ∧ ∃ i:Nat,i≤ne∧s7 = .int .i64 (i:Int)∧Hid (HS wb gl gx gy dX dY vu vd al ol cl up down lv (.slice a ne kc) ev n (ls.map (marks (ev.take i))) none wz)) (fun _ s7 _=>ne - (intOf s7).toNat)
   case atStart=>exact ⟨rfl,0,Nat.zero_le _,rfl,by rw [List.take_zero,zzbah]; exact H2⟩
   case round =>
    clear H2;obtain ⟨rfl,i,hi,rfl,H3⟩:=hrel;by_cases hin:i < ne
    ·obtain ⟨b,o,ha⟩:=HNN.out (by omega);subst ha;obtain ⟨⟨kd,id,cd⟩,hx⟩:∃ x,ev[i]? = some x:=⟨_,List.getElem?_eq_getElem (by have:=HNE.out; omega)⟩;obtain ⟨x1,x2,x3⟩:=HT2.out.2.1 (kd,id,cd) (List.mem_of_getElem? hx);obtain ⟨v0,v1⟩:=H3.out.evAt HNE.out hx;have kH:=KH.out al ol cl _ _ _ id H3.out x2;have HX:=hide hx;have HX3:=hide x3;have hin':(i:Int) < (ne:Int):=by omega
     have hk6:((kd:Int) != 6)=true:=by
      have h0:kd≠6:=x1
      have:¬ (kd:Int)=6:=by omega
      simpa using this
     clear hx x3 x1 H3
     go_wp2_with fail
     refine kH.mono ?_;rintro e w4 ⟨ah,kh,er,hm,rfl,H4,hcase⟩;obtain ⟨nh,hnh⟩:∃ k,hm.length=k:=⟨_,rfl⟩;rw [hnh] at H4 ⊢;have HS4:=hide H4;have HC:=hide hcase;have HNH:=hide hnh;clear kH H4 hcase hnh v0 v1
     go_wp2
     go_loopw [3,10] (fun s3 s10 wy=>s3 = .bool true ∧ ∃ k:Nat,k≤n∧s10 = .int .i64 (k:Int)∧Hid (HS wb gl gx gy dX dY vu vd al ol cl up down lv (.slice (some ⟨b,o,none⟩) ne kc) ev n (cur (ls.map (marks (ev.take i))) (kd,id,cd) k) (some (.slice ah nh kh,hm)) wy)) (fun _ s10 _=>n - (intOf s10).toNat)
     case atStart=>exact ⟨rfl,0,Nat.zero_le _,rfl,by rw [zzbeq]; exact HS4⟩
     case round =>
      clear HS4;obtain ⟨rfl,k,hk,rfl,H5⟩:=hrel;have c4:=H5.out.c4;by_cases hkn:k < n
      ·have hkl:k < (ls.map (marks (ev.take i))).length:=by rw [List.length_map]; have:=HN.out; omega
       obtain ⟨t,ht⟩:∃ t,(ls.map (marks (ev.take i)))[k]? = some t:=⟨_,List.getElem?_eq_getElem hkl⟩;have ht':=(zzbcw (ls.map (marks (ev.take i))) (kd,id,cd) hkl).trans ht;obtain ⟨l0,⟨ap,cp,l9,lP⟩,lf,rb,l8⟩:=H5.out.lineAt ht';obtain ⟨y0,y1⟩:=H5.out.evAt HNE.out HX.out;obtain ⟨s,hs,sid,sh⟩:=zzber _ ht;have hkn':(k:Int) < (n:Int):=by omega
       by_cases hid:t.id=id
       ·have hmm:hm=t.h∨hm.length≠t.h.length:=by
         rcases HC.out with ⟨-,q⟩ | ⟨q,-⟩
         ·rw [q];by_cases e:t.h=[]
          ·exact .inl e.symm
          ·exact .inr (fun x=>e (List.eq_nil_of_length_eq_zero x.symm))
         ·left;rw [(HT2.out.2.2 id hm q).1,← hid,sid,sh];exact lh_at hs HND.out
        have hml:hm.length≤1000:=by
         rcases HC.out with ⟨-,q⟩ | ⟨q,-⟩
         ·rw [q]; exact Nat.zero_le _
         ·exact (HT2.out.2.2 id hm q).2
        have KS:Hid (∀ W,Ext wr W→Calls Tryz.prog 32 #[.slice ah nh kh,.slice ap t.h.length cp] W fun e w' => ∃ b,e = .returned (.bool b)∧(hm=t.h→b=true)∧Ext W w'):=fun W hE=>zzbep _ _ hm t.h W (H5.out.ext hE).answer (lP.ext hE) hml hmm;have HOP:Hid (kd=1→er=0∧hm=t.h):=fun h1=>by
         have q1:=HX3.out h1;rcases HC.out with ⟨q,-⟩ | ⟨q,q2⟩
         ·rw [q1] at q; cases q
         ·refine ⟨q2,?_⟩;rw [(HT2.out.2.2 id hm q).1,← hid,sid,sh];exact lh_at hs HND.out
        have HRS:Hid (∀ W,Ext wr W→W.cell? ⟨al,ol+k * 10+8,none⟩=some (.bool rb)∧W.frozen? ⟨al,ol+k * 10+8,none⟩=false∧(kd=3→HS wb gl gx gy dX dY vu vd al ol cl up down lv (.slice (some ⟨b,o,none⟩) ne kc) ev n (cur (ls.map (marks (ev.take i))) (kd,id,cd) (k+1)) (some (.slice ah nh kh,hm)) (W.setCell ⟨al,ol+k * 10+8,none⟩ (.bool true)))∧(kd≠3→HS wb gl gx gy dX dY vu vd al ol cl up down lv (.slice (some ⟨b,o,none⟩) ne kc) ev n (cur (ls.map (marks (ev.take i))) (kd,id,cd) (k+1)) (some (.slice ah nh kh,hm)) W)):=fun W hE=>by
         refine ⟨hE.cell l8,((H5.out.ext hE).lineAt ht').2.2.1,fun h3 => ?_,fun h3 => ?_⟩
         ·rw [zzbcx _ _ ht h3 hid.symm];exact (H5.out.ext hE).reset ht'
         ·rw [zvm _ _ ht (fun q=>h3 q.1)];exact H5.out.ext hE
        rw [hid] at l0;generalize t.h.length=lt at *;clear lP lf l8 hs sid sh ht ht' hid H5 hmm hml HC HX3
        go_wp2_with fail
        go_quiet (fail)
        have hE1:=zah wr nq;have kS:=KS.out _ hE1;have c4q:=hE1.cell c4;have l9q:=hE1.cell l9;have HE1:=hide hE1;clear hE1
        go_wp2_with fail
        refine kS.mono ?_;rintro e w6 ⟨bb,rfl,hbb,hE6⟩;have hE7:=HE1.out.trans hE6;obtain ⟨r8,rf,r3,rn⟩:=HRS.out w6 hE7;have y0q:=hE7.cell y0;have c4r:=hE7.cell c4;clear kS c4q l9q hE6 hE7 y0 y1 l0 l9 c4 HE1;by_cases h3:kd=3
        ·have HR:=hide (r3 h3);clear r3 rn;have hd3:((kd:Int) == 3)=true:=by simp [h3]
         clear h3
         go_wp2
         go_roundw
         case rel=>exact ⟨rfl,k+1,by omega,by go_num,HR⟩
         case measure=>simp [intOf]; omega
        ·have HR:=hide (rn h3);clear r3 rn;by_cases h1:kd=1
         ·obtain ⟨q1,q2⟩:=HOP.out h1;have q3:=hbb q2;subst q1 q3;have hd3:((kd:Int) == 3)=false:=by simp [h1]
          have hd1:((kd:Int) == 1)=true:=by simp [h1]
          clear hbb q2 HOP h1 h3
          go_wp2
          go_roundw
          case rel=>exact ⟨rfl,k+1,by omega,by go_num,HR⟩
          case measure=>simp [intOf]; omega
         ·have h3':¬ (kd:Int)=3:=by omega
          have h1':¬ (kd:Int)=1:=by omega
          clear hbb HOP
          go_wp2
          go_roundw
          case rel=>exact ⟨rfl,k+1,by omega,by go_num,HR⟩
          case measure=>simp [intOf]; omega
       ·have hid':¬ (t.id:Int)=(id:Int):=by omega
        have HR:Hid (HS wb gl gx gy dX dY vu vd al ol cl up down lv (.slice (some ⟨b,o,none⟩) ne kc) ev n (cur (ls.map (marks (ev.take i))) (kd,id,cd) (k+1)) (some (.slice ah nh kh,hm)) wr):=by
         show HS _ _ _ _ _ _ _ _ _ _ _ _ _ _ _ _ _ _ _ _
         rw [zvm _ _ ht (fun q=>hid q.2.symm)];exact H5.out
        clear l9 lP lf l8 hs sid sh ht ht' hid H5;generalize t.id=tid at *
        go_wp2_with fail
        go_quiet (fail)
        have HR2:=hide (HR.out.ext (zah wr nq))
        go_wp2
        go_roundw
        case rel=>exact ⟨rfl,k+1,by omega,by go_num,HR2⟩
        case measure=>simp [intOf]; omega
      ·have HR:Hid (HS wb gl gx gy dX dY vu vd al ol cl up down lv (.slice (some ⟨b,o,none⟩) ne kc) ev n (ls.map (marks (ev.take (i+1)))) none wr):=by
        have q:=H5.out;rw [zzbge _ _ (k:=k) (by rw [List.length_map]; have:=HN.out; omega),zzbag ev HX.out] at q;exact q.drop
       clear H5
       go_wp2
       go_roundw
       case rel=>exact ⟨rfl,i+1,by omega,by go_num,HR⟩
       case measure=>simp [intOf]; omega
    ·have HR:Hid (Hold wb gl lv p m L S (QS (side+1)) wr):=by
      have q:=H3.out;have hl:=HNE.out;rw [List.take_of_length_le (by omega)] at q;exact q.hold (HSB.out.marks ev) hn1 HT1.out HQ.out
     clear H3
     go_wp2
     go_roundw
     case rel=>exact ⟨rfl,side+1,by omega,by go_num,HR⟩
     case measure=>simp [intOf]; omega
  ·have h2:side=2:=by omega
   subst h2
   go_wp2
   go_ret
   obtain ⟨own,gx,gy,dx,dy,vu,vd,vl,up,down,ls,xs,h1,h2,h3,h4,h5,h6,h7⟩:=H1.out;exact ⟨rfl,own,gx,gy,dx,dy,vu,vd,vl,up,down,ls,xs,h1,h2,h3,h4,h5,h6,h7.1 (by omega),h7.2 (by omega)⟩
end
open Go.RowKit
set_option maxRecDepth 100000
def In64 (x:Int):Prop:=-9223372036854775808≤x∧x≤9223372036854775807
def StepsIs (w:World) (v:Value):Prop :=
 ∃ a n cap,v = .slice a n cap∧n≤cap∧cap≤maxLen∧(n=0 ∨ ∃ b o,a=some ⟨b,o,none⟩ ∧ ∀ i,i < n → ∃ x0 x1 x2 x3:Int,In64 x0∧In64 x1∧In64 x2∧In64 x3 ∧
  w.cell? ⟨b,o+i * 4,none⟩=some (.int .i64 x0)∧w.cell? ⟨b,o+i * 4+1,none⟩=some (.int .i64 x1)∧w.cell? ⟨b,o+i * 4+2,none⟩=some (.int .i64 x2)∧w.cell? ⟨b,o+i * 4+3,none⟩=some (.int .i64 x3))
theorem Hold.base {wb w:World} {gl:Nat} {lv:Bool} {p m L S:Nat} {Q:Ds→Ds→Prop} (h:Hold wb gl lv p m L S Q w):Ext wb w:=by
 obtain ⟨own,gx,gy,dx,dy,vu,vd,vl,up,down,ls,xs,h1,-⟩:=h;exact h1.base
def CB (M:Nat) (wb:World) (gl:Nat) (Q:Ds→Ds→Prop) (i j:Nat) (w:World):Prop:=∃ lv,Hold wb gl lv (2+i) (M+122000 * j) (300 * i) (4+300 * i) Q w
theorem zod {M:Nat} {wb w:World} {gl i j:Nat} (h:CB M wb gl AnyEv i j w):Calls Tryz.prog 18 #[.pointer (some ⟨gl,0,none⟩)] w fun e w'=>e = .returned (.bool true)∧CB M wb gl NoEv i j w':=by
 obtain ⟨lv,h⟩:=h;exact (zzbgf h).mono (fun e w' ⟨h1,h2⟩=>⟨h1,lv,h2⟩)
theorem Hold.lessN {wb w:World} {gl:Nat} {lv:Bool} {p m L S:Nat} {m':Nat} {Q:Ds→Ds→Prop} (h:Hold wb gl lv p m L S Q w) (hm:m'≤m):Hold wb gl lv p m' L S Q w:=h.less hm
theorem zzbgg {M:Nat} {wb w:World} {gl i j:Nat} (hM:100≤M) (h:CB M wb gl NoEv i (j+1) w) (hij:i+(j+1)=200) (x0 x1 x2 x3:Int) (h0:In64 x0) (h1:In64 x1) (h2:In64 x2) (h3:In64 x3):Calls Tryz.prog 12 #[.pointer (some ⟨gl,0,none⟩),.agg #[.int .i64 x0,.int .i64 x1,.int .i64 x2,.int .i64 x3],.bool true] w fun e w'=>e = .returned (.bool true)∧CB M wb gl AnyEv (i+1) j w':=by
 obtain ⟨lv,h⟩:=h;have hle:(M+122000 * j)+2000+2 * (300 * i)≤M+122000 * (j+1):=by omega
 refine (zzbaf (m:=M+122000 * j) (h.lessN hle) (by omega) (by omega) (by omega) x0 x1 x2 x3 h0.1 h0.2 h1.1 h1.2 h2.1 h2.2 h3.1 h3.2 true).mono ?_;rintro e w' ⟨q1,lv',q2⟩;exact ⟨q1,lv',q2.fit (by omega) (Nat.le_refl _) (by omega) (by omega)⟩
theorem zzbcz {M:Nat} {wb w:World} {gl i j:Nat} (hM:M=25600000) (h:CB M wb gl AnyEv i j w) (hij:i+j=200):Calls Tryz.prog 23 #[.pointer (some ⟨gl,0,none⟩)] w fun e w'=>e = .returned (.tuple #[])∧CB 0 wb gl AnyEv 200 0 w':=by
 obtain ⟨lv,h⟩:=h;obtain ⟨P,hP⟩:∃ P,P=2+200:=⟨_,rfl⟩;obtain ⟨Lm,hL⟩:∃ P,P=300 * 200:=⟨_,rfl⟩;obtain ⟨K,hK⟩:∃ K,K=2 * (300+2 * Lm+2 * (9 * (10050+P)+881100)):=⟨_,rfl⟩;have hle:(0+122000 * 0)+5 * K≤M+122000 * j:=by subst hK hP hL hM; omega
 have h':Hold wb gl lv P ((0+122000 * 0)+5 * K) Lm (4+300 * 200) AnyEv w:=h.fit (by omega) hle (by omega) (by omega);refine (zzbeo K h' (Nat.le_of_eq hK.symm) (by omega) (by omega)).mono ?_;rintro e w' ⟨q1,q2⟩;refine ⟨q1,lv,?_⟩;rw [hP,hL] at q2;exact q2
theorem zzbda {M:Nat} (hM:M=25600000) (streams:Int) (w:World) (h1:-9223372036854775808≤streams) (h2:streams≤9223372036854775807) :
  Calls Tryz.prog 11 #[.int .i64 streams] w fun e w' => ∃ gl,e = .returned (.pointer (some ⟨gl,0,none⟩))∧CB M w gl AnyEv 0 200 w':=by
 refine (zxa streams w h1 h2).mono ?_;rintro e w' ⟨gl,q1,q2⟩;have hle:M+122000 * 200≤50000000:=by subst hM; omega
 exact ⟨gl,q1,false,q2.fit (Nat.le_refl _) hle (Nat.zero_le _) (Nat.le_refl _)⟩
set_option maxHeartbeats 6400000 in
theorem zxc (streams:Int) (v:Value) (w:World) (h1:-9223372036854775808≤streams) (h2:streams≤9223372036854775807) (hv:StepsIs w v) :
  Calls Tryz.prog 8 #[.int .i64 streams,v] w fun e w'=>e = .returned (.bool true)∧Ext w w':=by
 obtain ⟨a,n,cap,rfl,hn1,hn2,hs⟩:=hv;obtain ⟨M,hM⟩:∃ M,M=25600000:=⟨_,rfl⟩;have kj:=zzbda hM streams w h1 h2;have HM:=hide hM;have HS:=hide hs;have hn3:n≤9223372036854775807:=by unfold maxLen at hn2; omega
 clear hM hs h1 h2 hn1 hn2
 go_enter Tryz.func8,Tryz.ntmps8
 go_wp2_with fail
 refine kj.mono ?_;rintro e w1 ⟨gl,rfl,hC⟩;have HC:=hide hC;clear kj hC
 go_wp2
 go_loopw [6] (fun s6 wr => ∃ i j:Nat,i+j=200∧i≤n∧s6 = .int .i64 (i:Int)∧Hid (CB M w gl AnyEv i j wr)) (fun s6 _=>200 - (intOf s6).toNat)
 case atStart=>exact ⟨0,200,rfl,Nat.zero_le _,rfl,HC⟩
 case round =>
  obtain ⟨i,j,hij,hin,rfl,H1⟩:=hrel;clear HC;by_cases hlt:i < n∧i < 200
  ·obtain ⟨hl1,hl2⟩:=hlt;obtain ⟨j,rfl⟩:∃ j',j=j'+1:=⟨j - 1,by omega⟩;obtain ⟨b,o,ha,x0,x1,x2,x3,b0,b1,b2,b3,y0,y1,y2,y3⟩:∃ b o,a=some ⟨b,o,none⟩ ∧ ∃ x0 x1 x2 x3:Int,In64 x0∧In64 x1∧In64 x2∧In64 x3∧w.cell? ⟨b,o+i * 4,none⟩=some (.int .i64 x0)∧w.cell? ⟨b,o+i * 4+1,none⟩=some (.int .i64 x1)∧w.cell? ⟨b,o+i * 4+2,none⟩=some (.int .i64 x2)∧w.cell? ⟨b,o+i * 4+3,none⟩=some (.int .i64 x3):=by
    rcases HS.out with h0 | ⟨b,o,e,h⟩
    ·omega
    ·exact ⟨b,o,e,h i hl1⟩
   subst ha;have hl1':(i:Int) < (n:Int):=by omega
   have hl2':(i:Int) < 200:=by omega
   have k1:=zod H1.out;clear H1
   go_wp2_with fail
   refine k1.mono ?_;rintro e w2 ⟨rfl,hC2⟩;have hE2:Ext w w2:=by obtain ⟨lv,q⟩:=hC2; exact q.base
   have z0:=hE2.cell y0;have z1:=hE2.cell y1;have z2:=hE2.cell y2;have z3:=hE2.cell y3;have k2:=zzbgg (by have:=HM.out; omega) hC2 hij x0 x1 x2 x3 b0 b1 b2 b3;clear hC2 k1 hE2 y0 y1 y2 y3 b0 b1 b2 b3
   go_wp2_with fail
   refine k2.mono ?_;rintro e w3 ⟨rfl,hC3⟩;have HC3:=hide hC3;clear hC3 k2 z0 z1 z2 z3
   go_wp2
   go_roundw
   case rel=>exact ⟨i+1,j,by omega,by omega,by go_num,HC3⟩
   case measure=>simp [intOf]; omega
  ·have k1:=zzbcz HM.out H1.out hij;clear H1;by_cases hl1:i < n
   ·have hl2:¬ (i:Int) < 200:=by omega
    have hl1':(i:Int) < (n:Int):=by omega
    go_wp2_with fail
    refine k1.mono ?_;rintro e w2 ⟨rfl,hC2⟩;have k2:=zod hC2;clear hC2 k1
    go_wp2_with fail
    refine k2.mono ?_;rintro e w3 ⟨rfl,hC3⟩;have HE:Hid (Ext w w3):=by obtain ⟨lv,q⟩:=hC3; exact q.base
    clear hC3 k2
    go_wp2
    go_ret
    exact ⟨rfl,HE.out⟩
   ·have hl1':¬ (i:Int) < (n:Int):=by omega
    go_wp2_with fail
    refine k1.mono ?_;rintro e w2 ⟨rfl,hC2⟩;have k2:=zod hC2;clear hC2 k1
    go_wp2_with fail
    refine k2.mono ?_;rintro e w3 ⟨rfl,hC3⟩;have HE:Hid (Ext w w3):=by obtain ⟨lv,q⟩:=hC3; exact q.base
    clear hC3 k2
    go_wp2
    go_ret
    exact ⟨rfl,HE.out⟩
open Go.ChangeShapes Go.WideShapes Go.ChangeAt Go.RowKit Go.Deep
set_option maxRecDepth 100000
section
variable {H:Type} {enc:TypeId × Value→H} {w:World} {base:Nat} {held:Bool}
theorem zzbai {a:Addr} {cs:List Value} (h:w.cells? base a 4=some cs):∃ x0 x1 x2 x3,cs=[x0,x1,x2,x3]∧w.cell? a=some x0∧w.cell? (a.add 1)=some x1∧w.cell? (a.add 2)=some x2∧w.cell? (a.add 3)=some x3:=by
 obtain ⟨_,h1,h2⟩:=World.cells?_some h
 match cs,h1 with
 | [x0,x1,x2,x3],_ =>
  exact ⟨x0,x1,x2,x3,rfl,by simpa [Addr.add] using h2 0 (by decide),h2 1 (by decide),h2 2 (by decide),h2 3 (by decide)⟩
theorem zlz {x:Int} (h:(Lit.int .i64 x).wf=true):In64 x:=bounds_i64 h
theorem zzbdb {fuel:Nat} {cs:List Value} {x:DataW H × List MemPlace} (h:DataW.trod enc Tryz.prog w base (fun _=>true) held fuel 31 cs=some x) :
  ∃ (K A B C:Int),cs=[.int .i64 K,.int .i64 A,.int .i64 B,.int .i64 C]∧In64 K∧In64 A∧In64 B∧In64 C:=by
 obtain ⟨ys,n,_,rfl,hl,hlen,hf⟩:=DataW.trod_struct Tryz.underlying31 h;have hc:Tryz.prog.cellsOf 31=4:=by kernel_rfl
 have c3:Tryz.prog.cellsOf 3=1:=by kernel_rfl
 rw [hc] at hl
 match cs,hl,ys,hlen with
 | [x0,x1,x2,x3],_,[y0,y1,y2,y3],_ =>
  have f0:DataW.trod enc Tryz.prog w base (fun _=>true) held n 3 (([x0,x1,x2,x3].drop 0).take (Tryz.prog.cellsOf 3))=some y0:=hf 0 _ rfl;rw [c3] at f0;have f1:DataW.trod enc Tryz.prog w base (fun _=>true) held n 3 (([x0,x1,x2,x3].drop 1).take (Tryz.prog.cellsOf 3))=some y1:=hf 1 _ rfl;rw [c3] at f1;have f2:DataW.trod enc Tryz.prog w base (fun _=>true) held n 3 (([x0,x1,x2,x3].drop 2).take (Tryz.prog.cellsOf 3))=some y2:=hf 2 _ rfl;rw [c3] at f2;have f3:DataW.trod enc Tryz.prog w base (fun _=>true) held n 3 (([x0,x1,x2,x3].drop 3).take (Tryz.prog.cellsOf 3))=some y3:=hf 3 _ rfl;rw [c3] at f3;obtain ⟨K,e0,_,q0⟩:=DataW.trod_int Tryz.underlying3 f0;obtain ⟨A,e1,_,q1⟩:=DataW.trod_int Tryz.underlying3 f1;obtain ⟨B,e2,_,q2⟩:=DataW.trod_int Tryz.underlying3 f2;obtain ⟨C,e3,_,q3⟩:=DataW.trod_int Tryz.underlying3 f3;have g0:[x0]=[.int .i64 K]:=e0;have g1:[x1]=[.int .i64 A]:=e1;have g2:[x2]=[.int .i64 B]:=e2;have g3:[x3]=[.int .i64 C]:=e3;simp only [List.cons.injEq,and_true] at g0 g1 g2 g3;subst g0; subst g1; subst g2; subst g3;exact ⟨K,A,B,C,rfl,zlz q0,zlz q1,zlz q2,zlz q3⟩
theorem zzbaj {fuel:Nat} {cs:List Value} {x:DataW H × List MemPlace} (h:DataW.trod enc Tryz.prog w base (fun _=>true) held fuel 26 cs=some x) :
  ∃ v,cs=[v]∧StepsIs w v:=by
 rcases open_slice Tryz.underlying26 h with ⟨rfl,rfl⟩ | ⟨a,len,cap,k,n,D,Pl,rfl,_,h1,h2,hk,rfl,hcell⟩
 ·exact ⟨_,rfl,none,0,0,rfl,by simp,by simp [maxLen],.inl rfl⟩
 ·simp only [if_true] at hk;subst hk;have hc:Tryz.prog.cellsOf 31=4:=by kernel_rfl
  refine ⟨_,rfl,some a,len,k,rfl,h1,h2,?_⟩;have hone:∀ i,i < len → ∃ (x0 x1 x2 x3:Int),In64 x0∧In64 x1∧In64 x2∧In64 x3 ∧
    w.cell? (a.add (i * 4))=some (.int .i64 x0)∧w.cell? ((a.add (i * 4)).add 1)=some (.int .i64 x1)∧w.cell? ((a.add (i * 4)).add 2)=some (.int .i64 x2)∧w.cell? ((a.add (i * 4)).add 3)=some (.int .i64 x3):=by
   intro i hi;obtain ⟨cs',hcs,ht⟩:=hcell i (by omega);rw [hc] at hcs;obtain ⟨K,A,B,C,rfl,b0,b1,b2,b3⟩:=zzbdb ht;obtain ⟨x0,x1,x2,x3,e,q0,q1,q2,q3⟩:=zzbai hcs;simp only [List.cons.injEq,and_true] at e;obtain ⟨rfl,rfl,rfl,rfl⟩:=e;exact ⟨K,A,B,C,b0,b1,b2,b3,q0,q1,q2,q3⟩
  by_cases h0:len=0
  ·exact .inl h0
  ·right;obtain ⟨b,o,sp⟩:=a;obtain ⟨_,_,_,_,_,_,_,_,hz,_⟩:=hone 0 (by omega);have hsp:sp=none:=by simpa [Addr.add] using World.cell?_spot hz
   subst hsp;refine ⟨b,o,rfl,fun i hi => ?_⟩
   have:=hone i hi
   simp only [Addr.add_lit] at this;exact this
end
end Go.Proofs.YtoijpogadkogcaaGreat
