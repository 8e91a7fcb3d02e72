import Derived.Test.YtoijpogadkogcaaGreatQt
import Derived.Test.YtoijpogadkogcaaGreatQg
namespace Go.Proofs.YtoijpogadkogcaaGreat
open Go.RowKit
set_option maxRecDepth 100000
theorem zzbhc(d:Ds)(s:DS)(room:Int)(hb:s.block=[])(ht:zan s.state=false)(n:Nat)(hn:d.dataN s room=n)(hl:(s.data.drop n).length≠0):d.turn s room=if room<6+min s.data.length 1 then ([],d,s) else zic d s n:=by
 unfold Ds.turn;rw[if_neg (by simp[hb]),if_neg (by simp[ht])];by_cases h:room<6+min s.data.length 1
 ·rw[if_pos h,if_pos h]
 ·rw[if_neg h,if_neg h];dsimp only;rw[hn];rw[if_neg (λe=>hl e.1)];rfl
def lastT(d:Ds)(s:DS)(n:Nat):Bytes×Ds×DS:=(frame 0 1 s.id (s.data.take n),(({ d with from_:=d.from_-n }:Ds).setS s.id { s with data:=s.data.drop n,from_:=s.from_-n }).move { s with data:=s.data.drop n,from_:=s.from_-n } (Ds.hereTo { s with data:=s.data.drop n,from_:=s.from_-n }),Ds.moved { s with data:=s.data.drop n,from_:=s.from_-n } (Ds.hereTo { s with data:=s.data.drop n,from_:=s.from_-n }))
theorem zwl(d:Ds)(s:DS)(room:Int)(hb:s.block=[])(ht:zan s.state=false)(he:s.ends=true)(n:Nat)(hn:d.dataN s room=n)(hl:(s.data.drop n).length=0):d.turn s room=if room<6+min s.data.length 1 then ([],d,s) else lastT d s n:=by
 unfold Ds.turn;rw[if_neg (by simp[hb]),if_neg (by simp[ht])];by_cases h:room<6+min s.data.length 1
 ·rw[if_pos h,if_pos h]
 ·rw[if_neg h,if_neg h];dsimp only;rw[hn];rw[if_pos ⟨hl,he⟩];rfl
section
variable {N:Type} {own:N->Res} {nm:DN->N} {g:Nat} {d:Ds} {v:DV} {wb w:World}
set_option maxHeartbeats 6400000 in
theorem zua(h:zaa own nm g d v)(hs:Sep wb w own){m:Nat}(hf:d.Fits m){s:DS}(hn:d.str s.id=some s)(hb:s.block=[])(ht:zan s.state=false)(room:Int)(hr0:-9223372036854775808<=room)(hr1:room<=9223372036854775807)(hleft:∀ n:Nat,d.dataN s room=n->(s.data.drop n).length≠0) :
  Calls Tryz.prog 88 #[.pointer (some ⟨g,0,none⟩),.pointer (some ⟨v.ptr s.id,0,none⟩),.int .i64 room] w (Turned nm g wb own d v (d.turn s room)):=by
 have fs:=hf.st _ _ hn;have fi:=fs.id;have fd:=fs.data;have f0:=h.s0 hs hn;have f3:=h.s3 hs hn;have f7:=h.s7 hs hn;have f8:=h.s8 hs hn;have f10:=h.c10 hs;obtain⟨aD,cD,hvD,hcD,-⟩:=(hs.get (h.data hn)).slice;rw[hvD] at f7;by_cases hlt:room<6+min s.data.length 1
 ·have HT:Hid (d.turn s room=([],d,s)):=by
   show _=_
   unfold Ds.turn;rw[if_neg (by simp[hb]),if_neg (by simp[ht]),if_pos hlt]
  have HL:=hide (h.left hs);rw[HT.out];by_cases hz:s.data.length=0
  ·have hlt':room<6:=by rw[hz] at hlt;simpa using hlt
   rw[hz] at f7;clear hlt hz hcD hvD hleft
   go_enter Tryz.func88,Tryz.ntmps88
   go_wp2
   go_ret
   exact⟨_,rfl,zae.nil _,HL.out⟩
  ·have hlt':room<7:=by rw[Nat.min_eq_right (by omega)] at hlt;simpa using hlt
   have hz':(1:Int)<=(s.data.length:Int):=by omega
   clear hlt hz hcD hvD hleft;generalize s.data.length=n at *
   go_enter Tryz.func88,Tryz.ntmps88
   go_wp2
   all_goals
    go_ret
    exact⟨_,rfl,zae.nil _,HL.out⟩
 ·have hr6:6<=room:=by omega
  have hfr0:=fs.from0;have hfr1:=fs.from1;have hdf0:=hf.from0;have hdf1:=hf.from1;obtain⟨k,hk⟩:∃ k:Nat,d.dataN s room=(k:Int):=⟨(d.dataN s room).toNat,by
   have:0<=d.dataN s room:=by unfold Ds.dataN;omega
   omega⟩
  have hkA:k<=s.data.length/\(k:Int)<=s.from_/\(k:Int)<=d.from_/\k<=64:=by unfold Ds.dataN at hk;omega
  obtain⟨hkn,hks,hkd,hk64⟩:=hkA;have HT:Hid (d.turn s room=zic d s k):=by
   show _=_
   rw[zzbhc d s room hb ht k hk (hleft k hk),if_neg hlt]
  rw[HT.out];have hkl:=hleft k hk;rw[List.length_drop] at hkl;clear hleft;have HK:min (min (min (min (s.data.length:Int) 64) s.from_) d.from_) (room-6)=(k:Int):=hk;have hO:=hs.get (h.data hn);have hO':OwnAt w 5 1 (.slice aD s.data.length cD) s.data.length (zab s.data):=by rw[<-hvD];exact hO
  have hB0:=zae.take (OwnAt.isBytes hO') k hkn;have hrun1:∀ W:World,(Instr.slice 34 (.slice aD s.data.length cD) none (some (.int .i64 (k:Int))) none).run Tryz.prog W = .ok (sliced aD 0 k cD 1) W:=λW=>by rw[run_slice_h W 34 _ _ cD (by rw[zam];exact Tryz.underlying34) .i64 (k:Int) (by omega) (by omega),zam,zbl];simp[Result.andThen]
  have hrun2:∀ W:World,(Instr.slice 34 (.slice aD s.data.length cD) (some (.int .i64 (k:Int))) none none).run Tryz.prog W = .ok (sliced aD k s.data.length cD 1) W:=λW=>by rw[run_slice_l W 34 _ _ cD (by rw[zam];exact Tryz.underlying34) .i64 (k:Int) (by omega) (by omega),zam,zbl];simp[Result.andThen]
  have HBV:Hid (∀ b,(sliced aD 0 k cD 1).ownBlock=some b->b≠v.ptr s.id/\b≠g/\b<w.heap.size):=λb hbb=>by
   have hh:(Value.slice aD s.data.length cD).ownBlock=some b:=zib hbb;have hd:(own (nm (.data s.id))).has b:=by rw[h.data hn,hvD];exact hh
   refine⟨λe => ?_,λe => ?_,(hs.low _ b hd).2⟩
   ·have:=hs.apart (nm (.data s.id)) (nm (.st s.id)) b hd (by rw[h.st hn,e];rfl)
    exact absurd (h.inj _ _ this) (by simp)
   ·have:=hs.apart (nm (.data s.id)) (nm .conn) b hd (by rw[h.conn,e];rfl)
    exact absurd (h.inj _ _ this) (by simp)
  obtain⟨ab,kb,hvb,-,-,-⟩:=hB0;have hBw:=zae.take (OwnAt.isBytes hO') k hkn;rw[show (s.data.take k).length=k by rw[List.length_take];omega] at hvb;have hOr:=hO'.from k hkn;obtain⟨ay,ky,hvy,-,-⟩:=hOr.slice;have HVY:=hide hvy;have HVB:=hide hvb;rw[hvb] at hrun1 HBV hBw;rw[hvy] at hrun2;clear hOr hO hO' hvb hvy HT;have HBW:=hide hBw;have HVD:=hide hvD;have HKN:=hide hkn;have hlt2:(6:Int)+min (s.data.length:Int) 1<=room:=by omega
  clear hlt hk hBw hvD hcD hb ht;have hmin:∀ (W:World) (ts:Array TypeId) (ty:TypeId),(Builtin.min_ ts ty #[.int .i64 (s.data.length:Int),.int .i64 64,.int .i64 s.from_,.int .i64 d.from_,.int .i64 (room-6)]).run Tryz.prog W = .ok (.int .i64 (k:Int)) W:=λW ts ty=>by rw[zsk,HK]
  generalize hnl:s.data.length=n at *;have HNL:=hide hnl;clear hnl HK;have a0:∀ o1,(w.alloc o1).cell? ⟨v.ptr s.id,0,none⟩=some (.int .i64 (s.id:Int)):=λo1=>((Ext.refl w).alloc o1).cell f0;have a7:∀ o1,(w.alloc o1).cell? ⟨v.ptr s.id,7,none⟩=some (.slice aD n cD):=λo1=>((Ext.refl w).alloc o1).cell f7;have S1:=(((hs.liftObj (frO 0 0 s.id (.slice ab k kb))).ext (Ext.refl _).drew).ext (Ext.refl _).drew);have H1:=h.lift (.obj w.heap.size (frO 0 0 s.id (.slice ab k kb)));have XE:Ext w ((w.alloc (frO 0 0 s.id (.slice ab k kb))).drew.drew):=((Ext.refl w).alloc _).drew.drew;obtain⟨W1,hW1⟩:∃ W1,(w.alloc (frO 0 0 s.id (.slice ab k kb))).drew.drew=W1:=⟨_,rfl⟩;rw[hW1] at S1 XE;have hW1':(w.alloc (.cells #[.int .i64 0,.int .i64 0,.int .i64 (s.id:Int),.slice ab k kb] 111)).drew.drew=W1:=hW1;have g7:=H1.s7 S1 hn;have t7:=H1.sthaw S1 hn 7;rw[HVD.out] at g7;obtain⟨ownA,SA,HA,EA⟩:=H1.cutA (y:=.slice ay (n-k) ky) S1 hn (by rw[HNL.out];exact HVD.out) k (by rw[HNL.out];exact hkn) (by rw[HNL.out];exact HVY.out);obtain⟨WA,hWA⟩:∃ WA,W1.setCell ⟨v.ptr s.id,7,none⟩ (.slice ay (n-k) ky)=WA:=⟨_,rfl⟩;rw[hWA] at SA;have nA:(d.setS s.id { s with data:=s.data.drop k }).str s.id=some { s with data:=s.data.drop k }:=by rw[zaj];exact if_pos rfl
  have gA3:=HA.s3 SA nA;have tA3:=HA.sthaw SA nA 3;have SB:=SA.setObj (HA.st nA) 3 (.int .i64 (s.from_-k));rw[zia] at SB;have HB:=HA.scalS nA { s with data:=s.data.drop k,from_:=s.from_-k } rfl rfl rfl rfl rfl rfl rfl;rw[zjj] at HB;dsimp only at SB gA3 tA3;obtain⟨WB,hWB⟩:∃ WB,WA.setCell ⟨v.ptr s.id,3,none⟩ (.int .i64 (s.from_-k))=WB:=⟨_,rfl⟩;rw[hWB] at SB;have gB:WB.cell? ⟨g,10,none⟩=some (.int .i64 d.from_):=HB.c10 SB;have tB:=HB.thaw SB 10;have SC:=SB.setObj HB.conn 10 (.int .i64 (d.from_-k));rw[zjv] at SC;have HC:=zaa.scal (d':=({ d with from_:=d.from_-k }:Ds).setS s.id { s with data:=s.data.drop k,from_:=s.from_-k }) HB rfl rfl rfl rfl rfl;obtain⟨WC,hWC⟩:∃ WC,WB.setCell ⟨g,10,none⟩ (.int .i64 (d.from_-k))=WC:=⟨_,rfl⟩;rw[hWC] at SC;have nC:(({ d with from_:=d.from_-k }:Ds).setS s.id { s with data:=s.data.drop k,from_:=s.from_-k }).str s.id=some { s with data:=s.data.drop k,from_:=s.from_-k }:=by rw[zaj];exact if_pos rfl
  have gC7:=HC.s7 SC nC;have gC8:=HC.s8 SC nC;dsimp only at gC7 gC8;rw[if_pos rfl] at gC7;dsimp only at gC7;clear gC8;have hBC:zae WC (.slice ab k kb) (s.data.take k):=HBW.out.kept (λb hb=>by obtain⟨b1,b2,b3⟩:=HBV.out b hb;rw[<-hWC,Below.heap_setCell _ _ _ _ b2,<-hWB,Below.heap_setCell _ _ _ _ b1,<-hWA,Below.heap_setCell _ _ _ _ b1];exact XE.block b b3)
  have HCC:∃ ownC vC,Sep wb WC ownC/\zaa ownC (λx=>some (nm x)) g (({ d with from_:=d.from_-k }:Ds).setS s.id { s with data:=s.data.drop k,from_:=s.from_-k }) vC/\zai (λx=>some (nm x)) (lift own (.obj w.heap.size (frO 0 0 s.id (.slice ab k kb)))) ownC/\vC.rp=v.rp/\vC.vI=v.vI /\ ∀ n,vC.ptr n=v.ptr n :=
   ⟨_,_,SC,HC,(EA.upd (.st s.id) _).upd .conn _,rfl,rfl,λ_=>rfl⟩
  obtain⟨ownC,vC,sC,hC,eC,rC,iC,pC⟩:=HCC;have oC:ownC none = .obj w.heap.size (frO 0 0 s.id (.slice ab k kb)):=(eC none (λx e=>by cases e)).trans rfl;have b0:WC.cell? ⟨w.heap.size,0,none⟩=some (.int .i64 0):=sC.cell oC 0;have b1:WC.cell? ⟨w.heap.size,1,none⟩=some (.int .i64 0):=sC.cell oC 1;have b2:WC.cell? ⟨w.heap.size,2,none⟩=some (.int .i64 (s.id:Int)):=sC.cell oC 2;have b3:WC.cell? ⟨w.heap.size,3,none⟩=some (.slice ab k kb):=sC.cell oC 3;have ka:=zdp WC 0 0 s.id (.slice ab k kb) (s.data.take k) [] (.slice none 0 0) (OwnAt.nil _ _ _) (by simp) (by rw[List.length_take];omega) (by omega) (by omega) fi (λu v' hg=>hBC.ext (zes hg));unfold frV at ka;rw[List.nil_append] at ka;have HX:=hide (λw4 (he:Ext WC w4)=>(show zaf (λx=>some (nm x)) g wb (lift own (.obj w.heap.size (frO 0 0 s.id (.slice ab k kb)))) d v w4 (({ d with from_:=d.from_-k }:Ds).setS s.id { s with data:=s.data.drop k,from_:=s.from_-k }) from ⟨ownC,vC,sC.ext he,hC,eC,rC,λ_=>iC,λn hn=>⟨pC n,zbf _ _ _ n hn⟩⟩).unlift);have hkk:(k:Int)<=(n:Int):=by omega
  have hne:(((n-k:Nat):Int) == 0)=false:=by simp;omega
  clear hkl;clear sC hC eC oC rC iC pC SC HC SB HB SA HA EA S1 H1 nA nC hBC XE hW1;generalize hfr:frame 0 0 s.id (s.data.take k)=fr at *;have HFR:=hide hfr;clear hfr
  go_enter Tryz.func88,Tryz.ntmps88
  go_wp2_with fail
  all_goals
   go_region
   go_wp2_with fail
   go_region
   go_wp2_with fail
   all_goals
    refine ka.mono ?_;rintro e w4 ⟨v4,rfl,hO4,hG4⟩;obtain⟨a4,k4,hv4,-,-⟩:=hO4.slice;subst hv4;have HY:=hide (And.intro hO4.isBytes (HX.out w4 (zes hG4)));clear hO4 hG4
    go_wp2
    go_ret
    refine⟨_,rfl,?_,HY.out.2⟩
    show zae _ _ (frame 0 0 s.id (s.data.take k))
    rw[HFR.out];exact HY.out.1
set_option maxHeartbeats 6400000 in
theorem zub(h:zaa own nm g d v)(hs:Sep wb w own)(hf:d.Fits 1){s:DS}(hn:d.str s.id=some s)(hb:s.block=[])(ht:zan s.state=false)(he:s.ends=true)(hc:zav s.state=true)(room:Int)(hr0:-9223372036854775808<=room)(hr1:room<=9223372036854775807)(hleft:∀ n:Nat,d.dataN s room=n->(s.data.drop n).length=0) :
  Calls Tryz.prog 88 #[.pointer (some ⟨g,0,none⟩),.pointer (some ⟨v.ptr s.id,0,none⟩),.int .i64 room] w (Turned nm g wb own d v (d.turn s room)):=by
 have fs:=hf.st _ _ hn;have fi:=fs.id;have fd:=fs.data;have f0:=h.s0 hs hn;have f3:=h.s3 hs hn;have f7:=h.s7 hs hn;have f8:=h.s8 hs hn;have f10:=h.c10 hs;obtain⟨aD,cD,hvD,hcD,-⟩:=(hs.get (h.data hn)).slice;rw[hvD] at f7;by_cases hlt:room<6+min s.data.length 1
 ·have HT:Hid (d.turn s room=([],d,s)):=by
   show _=_
   unfold Ds.turn;rw[if_neg (by simp[hb]),if_neg (by simp[ht]),if_pos hlt]
  have HL:=hide (h.left hs);rw[HT.out];by_cases hz:s.data.length=0
  ·have hlt':room<6:=by rw[hz] at hlt;simpa using hlt
   rw[hz] at f7;clear hlt hz hcD hvD hleft hc
   go_enter Tryz.func88,Tryz.ntmps88
   go_wp2
   go_ret
   exact⟨_,rfl,zae.nil _,HL.out⟩
  ·have hlt':room<7:=by rw[Nat.min_eq_right (by omega)] at hlt;simpa using hlt
   have hz':(1:Int)<=(s.data.length:Int):=by omega
   clear hlt hz hcD hvD hleft hc;generalize s.data.length=n at *
   go_enter Tryz.func88,Tryz.ntmps88
   go_wp2
   all_goals
    go_ret
    exact⟨_,rfl,zae.nil _,HL.out⟩
 ·have hr6:6<=room:=by omega
  have hfr0:=fs.from0;have hfr1:=fs.from1;have hdf0:=hf.from0;have hdf1:=hf.from1;obtain⟨k,hk⟩:∃ k:Nat,d.dataN s room=(k:Int):=⟨(d.dataN s room).toNat,by
   have:0<=d.dataN s room:=by unfold Ds.dataN;omega
   omega⟩
  have hkA:k<=s.data.length/\(k:Int)<=s.from_/\(k:Int)<=d.from_/\k<=64:=by unfold Ds.dataN at hk;omega
  obtain⟨hkn,hks,hkd,hk64⟩:=hkA;have HT:Hid (d.turn s room=lastT d s k):=by
   show _=_
   rw[zwl d s room hb ht he k hk (hleft k hk),if_neg hlt]
  rw[HT.out];have hkl:=hleft k hk;rw[List.length_drop] at hkl;clear hleft;have HK:min (min (min (min (s.data.length:Int) 64) s.from_) d.from_) (room-6)=(k:Int):=hk;have hO:=hs.get (h.data hn);have hO':OwnAt w 5 1 (.slice aD s.data.length cD) s.data.length (zab s.data):=by rw[<-hvD];exact hO
  have hB0:=zae.take (OwnAt.isBytes hO') k hkn;have hrun1:∀ W:World,(Instr.slice 34 (.slice aD s.data.length cD) none (some (.int .i64 (k:Int))) none).run Tryz.prog W = .ok (sliced aD 0 k cD 1) W:=λW=>by rw[run_slice_h W 34 _ _ cD (by rw[zam];exact Tryz.underlying34) .i64 (k:Int) (by omega) (by omega),zam,zbl];simp[Result.andThen]
  have hrun2:∀ W:World,(Instr.slice 34 (.slice aD s.data.length cD) (some (.int .i64 (k:Int))) none none).run Tryz.prog W = .ok (sliced aD k s.data.length cD 1) W:=λW=>by rw[run_slice_l W 34 _ _ cD (by rw[zam];exact Tryz.underlying34) .i64 (k:Int) (by omega) (by omega),zam,zbl];simp[Result.andThen]
  have HBV:Hid (∀ b,(sliced aD 0 k cD 1).ownBlock=some b->b≠v.ptr s.id/\b≠g/\b<w.heap.size):=λb hbb=>by
   have hh:(Value.slice aD s.data.length cD).ownBlock=some b:=zib hbb;have hd:(own (nm (.data s.id))).has b:=by rw[h.data hn,hvD];exact hh
   refine⟨λe => ?_,λe => ?_,(hs.low _ b hd).2⟩
   ·have:=hs.apart (nm (.data s.id)) (nm (.st s.id)) b hd (by rw[h.st hn,e];rfl)
    exact absurd (h.inj _ _ this) (by simp)
   ·have:=hs.apart (nm (.data s.id)) (nm .conn) b hd (by rw[h.conn,e];rfl)
    exact absurd (h.inj _ _ this) (by simp)
  obtain⟨ab,kb,hvb,-,-,-⟩:=hB0;have hBw:=zae.take (OwnAt.isBytes hO') k hkn;rw[show (s.data.take k).length=k by rw[List.length_take];omega] at hvb;have hOr:=hO'.from k hkn;obtain⟨ay,ky,hvy,-,-⟩:=hOr.slice;have HVY:=hide hvy;have HVB:=hide hvb;rw[hvb] at hrun1 HBV hBw;rw[hvy] at hrun2;clear hOr hO hO' hvb hvy HT;have HBW:=hide hBw;have HVD:=hide hvD;have HKN:=hide hkn;have hlt2:(6:Int)+min (s.data.length:Int) 1<=room:=by omega
  clear hlt hk hBw hvD hcD hb ht;have hmin:∀ (W:World) (ts:Array TypeId) (ty:TypeId),(Builtin.min_ ts ty #[.int .i64 (s.data.length:Int),.int .i64 64,.int .i64 s.from_,.int .i64 d.from_,.int .i64 (room-6)]).run Tryz.prog W = .ok (.int .i64 (k:Int)) W:=λW ts ty=>by rw[zsk,HK]
  generalize hnl:s.data.length=n at *;have HNL:=hide hnl;clear hnl HK;have a0:∀ o1,(w.alloc o1).cell? ⟨v.ptr s.id,0,none⟩=some (.int .i64 (s.id:Int)):=λo1=>((Ext.refl w).alloc o1).cell f0;have a7:∀ o1,(w.alloc o1).cell? ⟨v.ptr s.id,7,none⟩=some (.slice aD n cD):=λo1=>((Ext.refl w).alloc o1).cell f7;have S1:=(((hs.liftObj (frO 0 0 s.id (.slice ab k kb))).ext (Ext.refl _).drew).ext (Ext.refl _).drew);have H1:=h.lift (.obj w.heap.size (frO 0 0 s.id (.slice ab k kb)));have XE:Ext w ((w.alloc (frO 0 0 s.id (.slice ab k kb))).drew.drew):=((Ext.refl w).alloc _).drew.drew;obtain⟨W1,hW1⟩:∃ W1,(w.alloc (frO 0 0 s.id (.slice ab k kb))).drew.drew=W1:=⟨_,rfl⟩;rw[hW1] at S1 XE;have hW1':(w.alloc (.cells #[.int .i64 0,.int .i64 0,.int .i64 (s.id:Int),.slice ab k kb] 111)).drew.drew=W1:=hW1;have g7:=H1.s7 S1 hn;have t7:=H1.sthaw S1 hn 7;rw[HVD.out] at g7;obtain⟨ownA,SA,HA,EA⟩:=H1.cutA (y:=.slice ay (n-k) ky) S1 hn (by rw[HNL.out];exact HVD.out) k (by rw[HNL.out];exact hkn) (by rw[HNL.out];exact HVY.out);obtain⟨WA,hWA⟩:∃ WA,W1.setCell ⟨v.ptr s.id,7,none⟩ (.slice ay (n-k) ky)=WA:=⟨_,rfl⟩;rw[hWA] at SA;have nA:(d.setS s.id { s with data:=s.data.drop k }).str s.id=some { s with data:=s.data.drop k }:=by rw[zaj];exact if_pos rfl
  have gA3:=HA.s3 SA nA;have tA3:=HA.sthaw SA nA 3;have SB:=SA.setObj (HA.st nA) 3 (.int .i64 (s.from_-k));rw[zia] at SB;have HB:=HA.scalS nA { s with data:=s.data.drop k,from_:=s.from_-k } rfl rfl rfl rfl rfl rfl rfl;rw[zjj] at HB;dsimp only at SB gA3 tA3;obtain⟨WB,hWB⟩:∃ WB,WA.setCell ⟨v.ptr s.id,3,none⟩ (.int .i64 (s.from_-k))=WB:=⟨_,rfl⟩;rw[hWB] at SB;have gB:WB.cell? ⟨g,10,none⟩=some (.int .i64 d.from_):=HB.c10 SB;have tB:=HB.thaw SB 10;have SC:=SB.setObj HB.conn 10 (.int .i64 (d.from_-k));rw[zjv] at SC;have HC:=zaa.scal (d':=({ d with from_:=d.from_-k }:Ds).setS s.id { s with data:=s.data.drop k,from_:=s.from_-k }) HB rfl rfl rfl rfl rfl;obtain⟨WC,hWC⟩:∃ WC,WB.setCell ⟨g,10,none⟩ (.int .i64 (d.from_-k))=WC:=⟨_,rfl⟩;rw[hWC] at SC;have nC:(({ d with from_:=d.from_-k }:Ds).setS s.id { s with data:=s.data.drop k,from_:=s.from_-k }).str s.id=some { s with data:=s.data.drop k,from_:=s.from_-k }:=by rw[zaj];exact if_pos rfl
  have gC7:=HC.s7 SC nC;have gC8:=HC.s8 SC nC;dsimp only at gC7 gC8;rw[if_pos rfl] at gC7;dsimp only at gC7;rw[he] at gC8;have hBC:zae WC (.slice ab k kb) (s.data.take k):=HBW.out.kept (λb hb=>by obtain⟨b1,b2,b3⟩:=HBV.out b hb;rw[<-hWC,Below.heap_setCell _ _ _ _ b2,<-hWB,Below.heap_setCell _ _ _ _ b1,<-hWA,Below.heap_setCell _ _ _ _ b1];exact XE.block b b3)
  have HCC:∃ ownC vC,Sep wb WC ownC/\zaa ownC (λx=>some (nm x)) g (({ d with from_:=d.from_-k }:Ds).setS s.id { s with data:=s.data.drop k,from_:=s.from_-k }) vC/\zai (λx=>some (nm x)) (lift own (.obj w.heap.size (frO 0 0 s.id (.slice ab k kb)))) ownC/\vC.rp=v.rp/\vC.vI=v.vI /\ ∀ n,vC.ptr n=v.ptr n :=
   ⟨_,_,SC,HC,(EA.upd (.st s.id) _).upd .conn _,rfl,rfl,λ_=>rfl⟩
  obtain⟨ownC,vC,sC,hC,eC,rC,iC,pC⟩:=HCC;have oC:ownC none = .obj w.heap.size (frO 0 0 s.id (.slice ab k kb)):=(eC none (λx e=>by cases e)).trans rfl;have b1:WC.cell? ⟨w.heap.size,1,none⟩=some (.int .i64 0):=sC.cell oC 1;have tD:=sC.thaw oC 1;have sD:Sep wb (WC.setCell ⟨w.heap.size,1,none⟩ (.int .i64 1)) (upd ownC none (.obj w.heap.size (frO 0 1 s.id (.slice ab k kb)))):=sC.setObj oC 1 (.int .i64 1);obtain⟨WD,hWD⟩:∃ WD,WC.setCell ⟨w.heap.size,1,none⟩ (.int .i64 1)=WD:=⟨_,rfl⟩;rw[hWD] at sD;have hD:zaa (upd ownC none (.obj w.heap.size (frO 0 1 s.id (.slice ab k kb)))) (λx=>some (nm x)) g (({ d with from_:=d.from_-k }:Ds).setS s.id { s with data:=s.data.drop k,from_:=s.from_-k }) vC:=⟨hC.inj,λx=>(zac _ _ (λe=>by cases e)).trans (hC.res x),hC.frl,hC.mapM,hC.mapT,hC.wf,hC.nilB,hC.nilH⟩;have hf1:Ds.Fits { d with from_:=d.from_-k } 1:={ hf with from0:=by show 0<=d.from_-k;omega,from1:=by show d.from_-k<=1000;omega };have fsC:DS.Fits { s with data:=s.data.drop k,from_:=s.from_-k }:={ fs with from0:=by show 0<=s.from_-k;omega,from1:=by show s.from_-k<=1000;omega,data:=by show (s.data.drop k).length<=_;rw[List.length_drop,HNL.out];omega };have hfC:=hf1.setS s.id { s with data:=s.data.drop k,from_:=s.from_-k } fsC;have ke:=zvk hD sD hfC (s:={ s with data:=s.data.drop k,from_:=s.from_-k }) nC hc;dsimp only at ke;rw[pC s.id] at ke;have HB5:Hid (∀ w5:World,(∀ b,b≠g->b≠v.ptr s.id->w5.heap[b]? = WD.heap[b]?)->zae w5 (.slice ab k kb) (s.data.take k)):=λw5 hbl=>hBC.kept (λb hb=>by obtain⟨q1,q2,q3⟩:=HBV.out b hb;rw[hbl b q2 q1,<-hWD,Below.heap_setCell _ _ _ _ (show b≠w.heap.size by omega)])
  have HX:Hid (∀ (w5:World) (own5:Option N->Res) (v5:DV),Sep wb w5 own5->zaa own5 (λx=>some (nm x)) g (lastT d s k).2.1 v5->zai (λx=>some (nm x)) (upd ownC none (.obj w.heap.size (frO 0 1 s.id (.slice ab k kb)))) own5->v5.rp=vC.rp->((lastT d s k).2.1.failed=false->v5.vI=vC.vI)->(∀ n,((({ d with from_:=d.from_-k }:Ds).setS s.id { s with data:=s.data.drop k,from_:=s.from_-k }).str n).isSome=true->v5.ptr n=vC.ptr n/\((lastT d s k).2.1.str n).isSome=true)->zaf nm g wb own d v w5 (lastT d s k).2.1):=λw5 own5 v5 q1 q2 q3 q4 q5 q6=>by
   refine zaf.unlift (r:=.obj w.heap.size (frO 0 1 s.id (.slice ab k kb))) ⟨own5,v5,q1,q2,λn hn => ?_,q4.trans rC,λhx=>(q5 hx).trans iC,λn hn => ?_⟩
   ·rw[q3 n hn];cases n with
    | none=>exact zag _ _ _
    | some n=>rw[zac _ _ (λe=>by cases e),eC (some n) hn];rfl
   ·obtain⟨p1,p2⟩:=q6 n (zbf _ _ _ n hn);exact⟨p1.trans (pC n),p2⟩
  clear sC hC eC oC rC iC pC SC HC SB HB SA HA EA S1 H1 nA nC hBC XE hW1 sD hD hf1 fsC hfC hc;have e0:n-k=0:=by omega
  rw[e0] at gC7;clear hkl e0;generalize hfr:frame 0 1 s.id (s.data.take k)=fr at *;have HFR:=hide hfr;clear hfr
  go_enter Tryz.func88,Tryz.ntmps88
  go_wp2_with fail
  all_goals
   go_region
   go_wp2_with fail
   go_region
   go_wp2_with fail
   refine ke.mono ?_;rintro e w5 ⟨rfl,⟨own5,v5,S5,H5,E5,r5,i5,p5⟩,hbl⟩;have o5:own5 none = .obj w.heap.size (frO 0 1 s.id (.slice ab k kb)):=(E5 none (λx e=>by cases e)).trans (zag _ _ _);have c0:w5.cell? ⟨w.heap.size,0,none⟩=some (.int .i64 0):=S5.cell o5 0;have c1:w5.cell? ⟨w.heap.size,1,none⟩=some (.int .i64 1):=S5.cell o5 1;have c2:w5.cell? ⟨w.heap.size,2,none⟩=some (.int .i64 (s.id:Int)):=S5.cell o5 2;have c3:w5.cell? ⟨w.heap.size,3,none⟩=some (.slice ab k kb):=S5.cell o5 3;have hB5:=HB5.out w5 hbl;have ka:=zdp w5 0 1 s.id (.slice ab k kb) (s.data.take k) [] (.slice none 0 0) (OwnAt.nil _ _ _) (by simp) (by rw[List.length_take];omega) (by omega) (by omega) fi (λu v' hg=>hB5.ext (zes hg));unfold frV at ka;rw[List.nil_append,HFR.out] at ka;have HY:=hide (λw4 (he:Ext w5 w4)=>HX.out w4 own5 v5 (S5.ext he) H5 E5 r5 i5 p5);clear S5 H5 E5 r5 i5 p5 hbl o5 hB5 ke
   go_wp2_with fail
   all_goals
    refine ka.mono ?_;rintro e w4 ⟨v4,rfl,hO4,hG4⟩;obtain⟨a4,k4,hv4,-,-⟩:=hO4.slice;subst hv4;have HZ:=hide (And.intro hO4.isBytes (HY.out w4 (zes hG4)));clear hO4 hG4
    go_wp2
    go_ret
    refine⟨_,rfl,?_,HZ.out.2⟩
    show zae _ _ (frame 0 1 s.id (s.data.take k))
    rw[HFR.out];exact HZ.out.1
theorem zvq(h:zaa own nm g d v)(hs:Sep wb w own)(hf:d.Fits 1){s:DS}(hn:d.str s.id=some s)(hb:s.block=[])(ht:zan s.state=false)(hc:s.ends=true->zaw s.state=true)(room:Int)(hr0:-9223372036854775808<=room)(hr1:room<=9223372036854775807) :
  Calls Tryz.prog 88 #[.pointer (some ⟨g,0,none⟩),.pointer (some ⟨v.ptr s.id,0,none⟩),.int .i64 room] w (Turned nm g wb own d v (d.turn s room)):=by
 cases he:s.ends with
 | false=>exact zvp h hs hf hn hb ht he room hr0 hr1
 | true =>
  have hk:∀ n:Nat,d.dataN s room=n->n=(d.dataN s room).toNat:=λn hn=>by omega
  by_cases hl:(s.data.drop (d.dataN s room).toNat).length=0
  ·refine zub h hs hf hn hb ht he ?_ room hr0 hr1 (λn hn=>by rw[hk n hn];exact hl)
   have:=hc he
   unfold zaw at this;unfold zav;simp only[Bool.or_eq_true,beq_iff_eq] at this ⊢;omega
  ·exact zua h hs hf hn hb ht room hr0 hr1 (λn hn=>by rw[hk n hn];exact hl)
end
section
variable {N:Type} {own:N->Res} {nm:DN->N} {g:Nat} {d:Ds} {v:DV} {wb w:World}
set_option maxHeartbeats 3200000 in
theorem zzbez(h:zaa own nm g d v)(hs:Sep wb w own)(hf:d.Fits 1){s:DS}(hn:d.str s.id=some s)(he:s.ends=true->zan s.state=false->zaw s.state=true)(room:Int)(hr0:-9223372036854775808<=room)(hr1:room<=9223372036854775807) :
  Calls Tryz.prog 49 #[.pointer (some ⟨g,0,none⟩),.pointer (some ⟨v.ptr s.id,0,none⟩),.int .i64 room] w (Turned nm g wb own d v (d.turn s room)):=by
 have f6:=h.s6 hs hn;have f2:=h.s2 hs hn;have hst:=(hf.st _ _ hn).state;by_cases hb:s.block=[]
 ·rw[h.nilB _ _ hn hb] at f6;have kt:=zix s.state hst w;cases ht:zan s.state with
  | true =>
   have kr:=ztt h hs hf hn hb ht room;rw[ht] at kt;generalize d.turn s room=t at *;clear ht hb
   go_enter Tryz.func49,Tryz.ntmps49
   go_wp2_with fail
   refine kt.mono ?_;rintro e w1 ⟨rfl,hw⟩;replace hw:=hw.symm;subst hw
   go_wp2_with fail
   refine kr.mono ?_;rintro e w2 ⟨v2,rfl,hB,hL⟩;have HB:=hide hB;obtain⟨a2,k2,hv2,-,-,-⟩:=hB;subst hv2;have HL:=hide hL;clear hL
   go_wp2
   go_ret
   exact⟨_,rfl,HB.out,HL.out⟩
  | false =>
   have kr:=zvq h hs hf hn hb ht (λe=>he e ht) room hr0 hr1;rw[ht] at kt;generalize d.turn s room=t at *;clear ht hb
   go_enter Tryz.func49,Tryz.ntmps49
   go_wp2_with fail
   refine kt.mono ?_;rintro e w1 ⟨rfl,hw⟩;replace hw:=hw.symm;subst hw
   go_wp2_with fail
   refine kr.mono ?_;rintro e w2 ⟨v2,rfl,hB,hL⟩;have HB:=hide hB;obtain⟨a2,k2,hv2,-,-,-⟩:=hB;subst hv2;have HL:=hide hL;clear hL
   go_wp2
   go_ret
   exact⟨_,rfl,HB.out,HL.out⟩
 ·have kr:=zqs h hs hf hn hb room;obtain⟨a,o,cap,e6,-⟩:=h.blockV hs hn hb;rw[e6] at f6;generalize d.turn s room=t at *;clear hb e6
  go_enter Tryz.func49,Tryz.ntmps49
  go_wp2_with fail
  refine kr.mono ?_;rintro e w2 ⟨v2,rfl,hB,hL⟩;have HB:=hide hB;obtain⟨a2,k2,hv2,-,-,-⟩:=hB;subst hv2;have HL:=hide hL;clear hL
  go_wp2
  go_ret
  exact⟨_,rfl,HB.out,HL.out⟩
end
end Go.Proofs.YtoijpogadkogcaaGreat
