import Derived.Test.YtoijpogadkogcaaGreatQx
namespace Go.Proofs.YtoijpogadkogcaaGreat
open Go.RowKit
set_option maxRecDepth 100000
section
variable {d:Ds}
end
def flat:List (Nat×Nat×Nat×Bytes)->Bytes
 | []=>[]
 | f::r=>frame f.1 f.2.1 f.2.2.1 f.2.2.2++flat r
theorem zuf(room:Int):∀ (l:List (Nat×Nat×Nat×Bytes)) (out:Bytes),(∀ f∈l,f.2.2.2.length<=1000)->(out.length:Int)+1006*l.length<=room->Ds.outCtl room l out=([],out++flat l)
 | [],out,_,_=>by rw[znh];show _=([],out++[]);rw[List.append_nil]
 | f::r,out,hb,hr=>by
  have h1:=hb f (by simp);have hl:((f::r).length:Int)=r.length+1:=by simp
  rw[hl] at hr;rw[zmb,if_neg (by omega),zuf room r _ (λg hg=>hb g (by simp[hg])) (by rw[List.length_append,zax];omega)]
  show _=([],out++(_++flat r))
  rw[List.append_assoc]
theorem zzw:∀ (l:List (Nat×Nat×Nat×Bytes)),(∀ f∈l,f.2.2.2.length<=1000)->(flat l).length<=1006*l.length
 | [],_=>Nat.zero_le _
 | f::r,hb=>by
  have h1:=hb f (by simp);have h2:=zzw r (λg hg=>hb g (by simp[hg]))
  show (_++flat r).length<=1006*(r.length+1)
  rw[List.length_append,zax];omega
theorem zht(d:Ds)(room:Int)(h1:d.ctl=[])(h2:d.ring=[]):d.out room=(d,[]):=by
 unfold Ds.out;dsimp only;rw[h1,znh];simp only[List.length_nil,if_true];have e:({ d with ctl:=[] }:Ds)=d:=by rw[<-h1]
 rw[e];refine zjl (zjc _ ?_);unfold Ds.ready;rw[h2];rfl
theorem zrm(id fuel kind:Nat)(b:Bytes):(Ds.hframes id fuel kind b).length≠0:=by
 cases fuel with
 | zero=>unfold Ds.hframes;rw[zax];omega
 | succ f =>
  unfold Ds.hframes;split
  ·rw[List.length_append,zax];omega
  ·rw[zax];omega
section
variable {N:Type} {own:N->Res} {nm:DN->N} {g:Nat} {d:Ds} {v:DV} {wb w:World}
theorem zaa.setD(h:zaa own nm g d v){s:DS}(hn:d.str s.id=some s)(u:Bytes)(x:Value) :
  zaa (upd (upd own (nm (.data s.id)) (.row 5 1 x u.length (zab u))) (nm (.st s.id)) (.obj (v.ptr s.id) (.cells ((zba g s (v.sv s.id)).setIfInBounds 7 x) 94 (0,0)))) nm g (d.setS s.id { s with data:=u }) { v with sv:=λk=>if k=s.id then { v.sv s.id with vD:=x } else v.sv k }:=by
 have ehdr:=h.hdr hn;have eblock:=h.block hn;have eunread:=h.unread hn;refine h.modS hn { s with data:=u } { v.sv s.id with vD:=x } _ ?_ ?_ ?_ ?_ ?_ ?_ rfl rfl rfl (λe=>h.nilB _ _ hn e) (λe=>h.nilH _ _ hn e)
 ·rw[zag];rfl
 ·rw[zad h.inj,if_neg (by simp),zad h.inj,if_neg (by simp)];exact ehdr
 ·rw[zad h.inj,if_neg (by simp),zad h.inj,if_neg (by simp)];exact eblock
 ·rw[zad h.inj,if_neg (by simp),zad h.inj,if_pos rfl]
 ·rw[zad h.inj,if_neg (by simp),zad h.inj,if_neg (by simp)];exact eunread
 ·intro y h0 _ _ h4 _;rw[zad h.inj,if_neg h0,zad h.inj,if_neg h4]
theorem zda(a:Option Addr)(n cap:Nat):sliced a 0 n cap 1 = .slice a n cap:=by
 unfold sliced;cases a with
 | none=>simp
 | some x=>simp[Addr.add]
def zge{N:Type}(nm:DN->N)(g:Nat)(wb:World)(own:N->Res)(d:Ds)(v:DV)(id:Int)(data:Bytes)(e:Ending)(w':World):Prop :=
 (d.unwritable (d.find id)≠0/\e = .returned (.tuple #[.int .i64 0,.int .i64 (d.unwritable (d.find id):Int)])/\zaf nm g wb own d v w' d) \/
 (d.unwritable (d.find id)=0/\e = .returned (.tuple #[.int .i64 (Ds.room (d.find id) data:Int),.int .i64 0])/\zaf nm g wb own d v w' (d.write (d.find id) data))
set_option maxHeartbeats 6400000 in
theorem zzbca(h:zaa own nm g d v)(hs:Sep wb w own)(hf:d.Fits 1)(id:Int)(h1:-9223372036854775808<=id)(h2:id<=9223372036854775807)(vb:Value)(data:Bytes)(hb:zae w vb data) :
  Calls Tryz.prog 30 #[.pointer (some ⟨g,0,none⟩),.int .i64 id,vb] w (zge nm g wb own d v id data):=by
 obtain⟨i0,hi0,hz0,hz1,hz2⟩:=zbk Tryz.infoU;have HB:=hide hb;obtain⟨ab,cb,hvb,hcb1,hcb2,-⟩:=hb;subst hvb;cases hr:d.real id with
 | none =>
  obtain⟨z,hz,hzz⟩:=zkg d id;obtain⟨W1,hW⟩:∃ W1,w.alloc (.cells (zcl z) 94)=W1:=⟨_,rfl⟩;obtain⟨hE,z2,z8,-⟩:=zmn w z hW;have S1:=hs.ext hE;have k:=zdx h hs h1 h2 hr hz hW;have efind:=zhq hr;rw[hz] at efind;have ku:=zeg h S1 w.heap.size { state:=z } (by show z<=8;rcases hzz with e | e<;>omega) z2 z8;rw[<-efind] at ku;have hne:d.unwritable (d.find id)≠0:=by
   rw[efind];unfold Ds.unwritable;rcases hzz with rfl | rfl
   ·rw[if_pos rfl];omega
   ·rw[if_neg (by show ¬ (8:Nat)=0;omega)];split
    ·omega
    ·show (if zbx 8=true then 7 else _)≠0
     rw[if_pos (by decide)];omega
  have fin:zge nm g wb own d v id data (.returned (.tuple #[.int .i64 0,.int .i64 (d.unwritable (d.find id):Int)])) W1:=.inl ⟨hne,rfl,h.left S1⟩;have HF:=hide fin;have hnb:((d.unwritable (d.find id):Int) != 0)=true:=bne_iff_ne.2 (by omega);generalize d.unwritable (d.find id)=er at *;clear fin hne efind hr hz hW
  go_enter Tryz.func30,Tryz.ntmps30
  go_wp2_with fail
  refine k.mono ?_;rintro e w1 ⟨rfl,hw⟩;replace hw:=hw.symm;subst hw
  go_wp2_with fail
  refine ku.mono ?_;rintro e w2 ⟨rfl,hw⟩;replace hw:=hw.symm;subst hw
  go_wp2
  go_ret2
  exact HF.out
 | some s =>
  have hst:=zhi h hr;have fs:=hf.st _ _ hst;have k:=zer h hs h1 h2 hr;have efind:=zfe hr;have ku:=zeg h hs (v.ptr s.id) s fs.state (h.s2 hs hst) (h.s8 hs hst);by_cases hu:d.unwritable s=0
  ·have f7:=h.s7 hs hst;have hrow:=h.data hst;obtain⟨aD,cD,hvD,hcD,-⟩:=(hs.get hrow).slice;rw[hvD] at f7;have fd:=fs.data;rw[hu] at ku;have hrm:Ds.room s data=min data.length (256-s.data.length):=rfl;by_cases hcmp:256-(s.data.length:Int)<(data.length:Int)
   ·by_cases hz:Ds.room s data=0
    ·have HF:Hid (zge nm g wb own d v id data (.returned (.tuple #[.int .i64 0,.int .i64 0])) w):=by
      refine .inr ⟨by rw[efind];exact hu,by rw[efind,hz];rfl,?_⟩;rw[efind];unfold Ds.write;rw[if_pos hz];exact h.left hs
     have hki:(256-(s.data.length:Int))=0:=by omega
     have HZK:=hide hki;have hnp:¬ (0:Int)<(256-(s.data.length:Int)):=by omega
     clear hz hrm hu efind hr hki;generalize data.length=dl at *;generalize s.data.length=sl at *
     go_enter Tryz.func30,Tryz.ntmps30
     go_wp2_with fail
     refine k.mono ?_;rintro e w1 ⟨rfl,hw⟩;replace hw:=hw.symm;subst hw
     go_wp2_with fail
     refine ku.mono ?_;rintro e w2 ⟨rfl,hw⟩;replace hw:=hw.symm;subst hw
     go_wp2
     go_ret2
     show zge nm g wb own d v id data (.returned (.tuple #[.int .i64 (256-(sl:Int)),.int .i64 0])) w
     rw[HZK.out];exact HF.out
    ·have hkk:(256-(s.data.length:Int))=((Ds.room s data:Nat):Int):=by omega
     have hpos:(0:Int)<(256-(s.data.length:Int)):=by omega
     obtain⟨n,hn⟩:∃ n,Ds.room s data=n:=⟨_,rfl⟩;rw[hn] at hkk;have hnd:n<=data.length:=by omega
     have hBt:=zae.take HB.out n hnd;rw[zda] at hBt;have hrun:∀ W:World,(Instr.slice 34 (.slice ab data.length cb) none (some (.int .i64 (256-(s.data.length:Int)))) none).run Tryz.prog W = .ok (.slice ab n cb) W:=λW=>by
      rw[hkk,run_slice_h W 34 _ _ cb (by rw[zam];exact Tryz.underlying34) .i64 (n:Int) (by omega) (by omega),zam,zbl]
      show Result.ok (sliced ab 0 n cb 1) W=_
      rw[zda]
     have hsrc:=zed (hBt.ext (Ext.refl w).drew);have hdt:(data.take n).length=n:=by rw[List.length_take];omega
     rw[hdt] at hsrc;have Sd:=hs.ext (Ext.refl w).drew;have hOd:OwnAt w.drew 5 1 (.slice aD s.data.length cD) s.data.length (zab s.data):=by
      have:=Sd.get hrow
      rw[hvD] at this;exact this
     have HWR:Hid (zge nm g wb own d v id data=λe w'=>e = .returned (.tuple #[.int .i64 (n:Int),.int .i64 0])/\zaf nm g wb own d v w' ((d.setS s.id { s with data:=s.data++data.take n }).enter s.id)):=by
      show _=_
      funext e w'
      unfold zge;rw[efind];have hw:d.write s data=(d.setS s.id { s with data:=s.data++data.take n }).enter s.id:=by unfold Ds.write;rw[if_neg hz,hn]
      rw[hw,hn];simp[hu]
     rw[HWR.out];have HKK:=hide hkk;have HVD:=hide hvD;have HCB:Hid (zab s.data++zab (data.take n)=zab (s.data++data.take n)):=(zbe _ _).symm;have HNL:Hid (s.data.length+n=(s.data++data.take n).length):=by show _=_;rw[List.length_append,hdt]
     have hfd2:(s.data++data.take n).length<=256:=by rw[List.length_append,hdt];omega
     have FN:(d.setS s.id { s with data:=s.data++data.take n }).Fits 1:=hf.setS _ _ ⟨fs.id,fs.state,fs.from0,fs.from1,fs.to0,fs.to1,fs.headers,fs.block,hfd2,fs.code⟩;have hls:s.data.length+n<=256:=by rw[HNL.out];exact hfd2
     clear hz hrm hu efind hr hkk hn hnd hBt hdt HB hfd2 hvD;generalize hND:s.data++data.take n=ND at *;generalize data.length=dl at *;generalize hsl:s.data.length=sl at *;have HSL:=hide hsl;clear hsl hND;have ft7:=h.sthaw hs hst 7
     go_enter Tryz.func30,Tryz.ntmps30
     go_wp2_with fail
     refine k.mono ?_;rintro e w1 ⟨rfl,hw⟩;replace hw:=hw.symm;subst hw
     go_wp2_with fail
     refine ku.mono ?_;rintro e w2 ⟨rfl,hw⟩;replace hw:=hw.symm;subst hw
     go_wp2_with fail
     go_region_law (
      refine zgr rfl (.tmp 35) (.tmp 38) 34 34 rfl 5 i0 (.int .u8 0) 1 1 Tryz.underlying34 hi0 hz0 hz1 hz2 rfl (.slice aD sl cD) sl (zab s.data) ?_ hOd (.slice ab n cb) n (zab (data.take n)) ?_ hsrc ?_ ?_ ?_
      ·simp[Act.eval]
      ·simp[Act.eval]
      ·unfold maxLen;omega
      ·omega
      intro v5 w5 hO5 hG5;have hO6:=zbv hO5 HNL.out HCB.out;rw[<-HVD.out] at hG5;obtain⟨a5,k5,hv5,_,_⟩:=hO6.slice;subst hv5;have S5:=Sd.grew hrow hG5 hO6;have c5:=(zad h.inj own (.data s.id) (.st s.id) (.row 5 1 (.slice a5 ND.length k5) ND.length (zab ND))).trans ((if_neg (by simp)).trans (h.st hst));have t7:w5.frozen? ⟨v.ptr s.id,7,none⟩=false:=S5.thaw c5 7;have f7':w5.cell? ⟨v.ptr s.id,7,none⟩=some (v.sv s.id).vD:=S5.cell c5 7;clear hG5 hO5 hO6)
     all_goals
      have S6:=S5.setObj c5 7 (.slice a5 ND.length k5);have H6:=h.setD hst ND (.slice a5 ND.length k5);obtain⟨W6,hW6⟩:∃ W6,w5.setCell ⟨v.ptr s.id,7,none⟩ (.slice a5 ND.length k5)=W6:=⟨_,rfl⟩;rw[hW6] at S6;have E6:=((zai.refl nm own).upd (.data s.id) (.row 5 1 (.slice a5 ND.length k5) ND.length (zab ND))).upd (.st s.id) (.obj (v.ptr s.id) (.cells ((zba g s (v.sv s.id)).setIfInBounds 7 (.slice a5 ND.length k5)) 94 (0,0)));have n6:(d.setS s.id { s with data:=ND }).str s.id=some { s with data:=ND }:=by rw[zaj];exact if_pos rfl
      have ke:=zfu H6 S6 FN (n:=s.id) n6;dsimp only at ke;have HE:=hide E6;clear S5 H6 S6 E6 Sd hOd
      go_wp2_with fail
      refine ke.mono ?_;rintro e w7 ⟨rfl,hL⟩;have HL:=hide (hL.trans (own:=own) (d:=d) (v:=v) HE.out rfl (λ_=>rfl) (λk hk=>⟨rfl,zbf _ _ _ k hk⟩));clear hL
      go_wp2
      go_ret2
      refine⟨?_,HL.out⟩
      show Ending.returned (.tuple #[.int .i64 (256-(sl:Int)),.int .i64 0])=_
      rw[HKK.out]
   ·by_cases hz:Ds.room s data=0
    ·have HF:Hid (zge nm g wb own d v id data (.returned (.tuple #[.int .i64 0,.int .i64 0])) w):=by
      refine .inr ⟨by rw[efind];exact hu,by rw[efind,hz];rfl,?_⟩;rw[efind];unfold Ds.write;rw[if_pos hz];exact h.left hs
     have hki:((data.length:Int))=0:=by omega
     have HZK:=hide hki;have hnp:¬ (0:Int)<((data.length:Int)):=by omega
     clear hz hrm hu efind hr hki;generalize data.length=dl at *;generalize s.data.length=sl at *
     go_enter Tryz.func30,Tryz.ntmps30
     go_wp2_with fail
     refine k.mono ?_;rintro e w1 ⟨rfl,hw⟩;replace hw:=hw.symm;subst hw
     go_wp2_with fail
     refine ku.mono ?_;rintro e w2 ⟨rfl,hw⟩;replace hw:=hw.symm;subst hw
     go_wp2
     go_ret2
     show zge nm g wb own d v id data (.returned (.tuple #[.int .i64 ((dl:Int)),.int .i64 0])) w
     rw[HZK.out];exact HF.out
    ·have hkk:((data.length:Int))=((Ds.room s data:Nat):Int):=by omega
     have hpos:(0:Int)<((data.length:Int)):=by omega
     obtain⟨n,hn⟩:∃ n,Ds.room s data=n:=⟨_,rfl⟩;rw[hn] at hkk;have hnd:n<=data.length:=by omega
     have hBt:=zae.take HB.out n hnd;rw[zda] at hBt;have hrun:∀ W:World,(Instr.slice 34 (.slice ab data.length cb) none (some (.int .i64 ((data.length:Int)))) none).run Tryz.prog W = .ok (.slice ab n cb) W:=λW=>by
      rw[hkk,run_slice_h W 34 _ _ cb (by rw[zam];exact Tryz.underlying34) .i64 (n:Int) (by omega) (by omega),zam,zbl]
      show Result.ok (sliced ab 0 n cb 1) W=_
      rw[zda]
     have hsrc:=zed (hBt.ext (Ext.refl w).drew);have hdt:(data.take n).length=n:=by rw[List.length_take];omega
     rw[hdt] at hsrc;have Sd:=hs.ext (Ext.refl w).drew;have hOd:OwnAt w.drew 5 1 (.slice aD s.data.length cD) s.data.length (zab s.data):=by
      have:=Sd.get hrow
      rw[hvD] at this;exact this
     have HWR:Hid (zge nm g wb own d v id data=λe w'=>e = .returned (.tuple #[.int .i64 (n:Int),.int .i64 0])/\zaf nm g wb own d v w' ((d.setS s.id { s with data:=s.data++data.take n }).enter s.id)):=by
      show _=_
      funext e w'
      unfold zge;rw[efind];have hw:d.write s data=(d.setS s.id { s with data:=s.data++data.take n }).enter s.id:=by unfold Ds.write;rw[if_neg hz,hn]
      rw[hw,hn];simp[hu]
     rw[HWR.out];have HKK:=hide hkk;have HVD:=hide hvD;have HCB:Hid (zab s.data++zab (data.take n)=zab (s.data++data.take n)):=(zbe _ _).symm;have HNL:Hid (s.data.length+n=(s.data++data.take n).length):=by show _=_;rw[List.length_append,hdt]
     have hfd2:(s.data++data.take n).length<=256:=by rw[List.length_append,hdt];omega
     have FN:(d.setS s.id { s with data:=s.data++data.take n }).Fits 1:=hf.setS _ _ ⟨fs.id,fs.state,fs.from0,fs.from1,fs.to0,fs.to1,fs.headers,fs.block,hfd2,fs.code⟩;have hls:s.data.length+n<=256:=by rw[HNL.out];exact hfd2
     clear hz hrm hu efind hr hkk hn hnd hBt hdt HB hfd2 hvD;generalize hND:s.data++data.take n=ND at *;generalize data.length=dl at *;generalize hsl:s.data.length=sl at *;have HSL:=hide hsl;clear hsl hND;have ft7:=h.sthaw hs hst 7
     go_enter Tryz.func30,Tryz.ntmps30
     go_wp2_with fail
     refine k.mono ?_;rintro e w1 ⟨rfl,hw⟩;replace hw:=hw.symm;subst hw
     go_wp2_with fail
     refine ku.mono ?_;rintro e w2 ⟨rfl,hw⟩;replace hw:=hw.symm;subst hw
     go_wp2_with fail
     go_region_law (
      refine zgr rfl (.tmp 35) (.tmp 38) 34 34 rfl 5 i0 (.int .u8 0) 1 1 Tryz.underlying34 hi0 hz0 hz1 hz2 rfl (.slice aD sl cD) sl (zab s.data) ?_ hOd (.slice ab n cb) n (zab (data.take n)) ?_ hsrc ?_ ?_ ?_
      ·simp[Act.eval]
      ·simp[Act.eval]
      ·unfold maxLen;omega
      ·omega
      intro v5 w5 hO5 hG5;have hO6:=zbv hO5 HNL.out HCB.out;rw[<-HVD.out] at hG5;obtain⟨a5,k5,hv5,_,_⟩:=hO6.slice;subst hv5;have S5:=Sd.grew hrow hG5 hO6;have c5:=(zad h.inj own (.data s.id) (.st s.id) (.row 5 1 (.slice a5 ND.length k5) ND.length (zab ND))).trans ((if_neg (by simp)).trans (h.st hst));have t7:w5.frozen? ⟨v.ptr s.id,7,none⟩=false:=S5.thaw c5 7;have f7':w5.cell? ⟨v.ptr s.id,7,none⟩=some (v.sv s.id).vD:=S5.cell c5 7;clear hG5 hO5 hO6)
     all_goals
      have S6:=S5.setObj c5 7 (.slice a5 ND.length k5);have H6:=h.setD hst ND (.slice a5 ND.length k5);obtain⟨W6,hW6⟩:∃ W6,w5.setCell ⟨v.ptr s.id,7,none⟩ (.slice a5 ND.length k5)=W6:=⟨_,rfl⟩;rw[hW6] at S6;have E6:=((zai.refl nm own).upd (.data s.id) (.row 5 1 (.slice a5 ND.length k5) ND.length (zab ND))).upd (.st s.id) (.obj (v.ptr s.id) (.cells ((zba g s (v.sv s.id)).setIfInBounds 7 (.slice a5 ND.length k5)) 94 (0,0)));have n6:(d.setS s.id { s with data:=ND }).str s.id=some { s with data:=ND }:=by rw[zaj];exact if_pos rfl
      have ke:=zfu H6 S6 FN (n:=s.id) n6;dsimp only at ke;have HE:=hide E6;clear S5 H6 S6 E6 Sd hOd
      go_wp2_with fail
      refine ke.mono ?_;rintro e w7 ⟨rfl,hL⟩;have HL:=hide (hL.trans (own:=own) (d:=d) (v:=v) HE.out rfl (λ_=>rfl) (λk hk=>⟨rfl,zbf _ _ _ k hk⟩));clear hL
      go_wp2
      go_ret2
      refine⟨?_,HL.out⟩
      show Ending.returned (.tuple #[.int .i64 ((dl:Int)),.int .i64 0])=_
      rw[HKK.out]
  ·have fin:zge nm g wb own d v id data (.returned (.tuple #[.int .i64 0,.int .i64 (d.unwritable s:Int)])) w:=.inl ⟨by rw[efind];exact hu,by rw[efind],h.left hs⟩;have HF:=hide fin;have hnb:((d.unwritable s:Int) != 0)=true:=bne_iff_ne.2 (by omega);generalize d.unwritable s=er at *;clear fin efind hr
   go_enter Tryz.func30,Tryz.ntmps30
   go_wp2_with fail
   refine k.mono ?_;rintro e w1 ⟨rfl,hw⟩;replace hw:=hw.symm;subst hw
   go_wp2_with fail
   refine ku.mono ?_;rintro e w2 ⟨rfl,hw⟩;replace hw:=hw.symm;subst hw
   go_wp2
   go_ret2
   exact HF.out
theorem zaf.endAt{w':World}{d':Ds}(h:zaf nm g wb own d v w' d')(hi:znd d v)(hk:d'.failed=d.failed/\d'.inn=d.inn):∃ own',Sep wb w' own'/\zar own' nm g d'/\zai nm own own':=by obtain⟨own',v',S,H,E,r,i,-⟩:=h;refine⟨own',S,⟨v',H,λhx => ?_⟩,E⟩;rw[r,i hx,hk.2];exact hi (by rw[<-hk.1];exact hx)
theorem zme(d:Ds)(hd:zal):(d.opened hd).failed=d.failed/\(d.opened hd).inn=d.inn:=by unfold Ds.opened;dsimp only;exact⟨(zzo _ _).trans (zmq { d with mLast:=d.next } true 1),(zwi _ _).trans (zks { d with mLast:=d.next } true 1)⟩
theorem znk(d:Ds)(s:DS)(b:Bytes):(d.write s b).failed=d.failed/\(d.write s b).inn=d.inn:=by
 unfold Ds.write;split
 ·exact⟨rfl,rfl⟩
 ·unfold Ds.enter;split<;>exact⟨rfl,rfl⟩
theorem zps(h:zar own nm g d)(hs:Sep wb w own)(hf:d.Fits 3)(hnew:d.str d.next=none)(vh:Value)(hd:zal)(hp:zbq w vh hd)(hsz:∀ p∈hd,p.1.length<=maxLen/\p.2.length<=maxLen) :
  Calls Tryz.prog 29 #[.pointer (some ⟨g,0,none⟩),vh] w λe w' => ∃ own',Sep wb w' own'/\zai nm own own'/\((d.open? hd=0/\e = .returned (.tuple #[.int .i64 (d.next:Int),.int .i64 0])/\zar own' nm g (d.opened hd))\/(d.open? hd≠0/\e = .returned (.tuple #[.int .i64 0,.int .i64 (d.open? hd:Int)])/\zar own' nm g d)):=by
 obtain⟨v,h1,h2⟩:=h;refine(zzbfc h1 hs hf hnew vh hd hp hsz).mono ?_;rintro e w' (⟨a,b,c⟩ | ⟨a,b,c⟩)
 ·obtain⟨own',S,X,E⟩:=c.endAt h2 (zme d hd);exact⟨own',S,E,.inl ⟨a,b,X⟩⟩
 ·obtain⟨own',S,X,E⟩:=c.endAt h2 ⟨rfl,rfl⟩;exact⟨own',S,E,.inr ⟨a,b,X⟩⟩
theorem znl(h:zar own nm g d)(hs:Sep wb w own)(hf:d.Fits 1)(id:Int)(h1:-9223372036854775808<=id)(h2:id<=9223372036854775807)(vb:Value)(data:Bytes)(hb:zae w vb data) :
  Calls Tryz.prog 30 #[.pointer (some ⟨g,0,none⟩),.int .i64 id,vb] w λe w' => ∃ own',Sep wb w' own'/\zai nm own own'/\((d.unwritable (d.find id)≠0/\e = .returned (.tuple #[.int .i64 0,.int .i64 (d.unwritable (d.find id):Int)])/\zar own' nm g d)\/(d.unwritable (d.find id)=0/\e = .returned (.tuple #[.int .i64 (Ds.room (d.find id) data:Int),.int .i64 0])/\zar own' nm g (d.write (d.find id) data))):=by
 obtain⟨v,k1,k2⟩:=h;refine(zzbca k1 hs hf id h1 h2 vb data hb).mono ?_;rintro e w' (⟨a,b,c⟩ | ⟨a,b,c⟩)
 ·obtain⟨own',S,X,E⟩:=c.endAt k2 ⟨rfl,rfl⟩;exact⟨own',S,E,.inl ⟨a,b,X⟩⟩
 ·obtain⟨own',S,X,E⟩:=c.endAt k2 (znk d _ data);exact⟨own',S,E,.inr ⟨a,b,X⟩⟩
end
theorem zzbds(d:Ds)(room:Int)(hb:∀ f∈d.ctl,f.2.2.2.length<=1000)(hr:1006*(d.ctl.length:Int)<=room):d.out room=Ds.outRing room (room.toNat+1) { d with ctl:=[] } (flat d.ctl):=by have e1:=zuf room d.ctl [] hb (by simp;omega);rw[List.nil_append] at e1;unfold Ds.out;dsimp only;rw[e1];simp only[List.length_nil,if_true]
end Go.Proofs.YtoijpogadkogcaaGreat
