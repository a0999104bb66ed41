/- Texts joined: Ip6BackWalk -/
import Derived.Test.YtmnkdogdligckaaIp6zb48
import Derived.Test.YtmnkdogdligckaaIp6zb49
namespace Go.Proofs.Ytmnkdogdligckaa
open Go.RowKit
set_option linter.unusedVariables false
set_option linter.unusedSimpArgs false
theorem ip6Back_walk (q : Pk) (xa : Option Addr) (xc : Nat) (X : List Int) (da : Option Addr) (dc : Nat) (w : World) (hxl : X.length ≤ xc) (hxm : xa = none → xc = 0) (hx : RowI w xa X) (ok : q.ok) (hdc : q.data.length ≤ dc) (hdm : dc ≤ 140737488351232) (hdn : da = none → dc = 0) (hdr : Row w da q.data) :
    Calls Try.prog 6 #[q.v (.slice xa X.length xc) (.slice da q.data.length dc)] w fun e w' => e = .returned (.bool true) ∧ Below w.heap.size w w' := by
  obtain ⟨f, ⟨sf, sh, sl⟩, ⟨df, dh, dl⟩, pr, ho, fg, id, of, mo, dat⟩ := q
  simp only at hdc hdr
  show Calls Try.prog 6 #[.agg #[.int .i64 f, .int .i64 sf, .int .u64 sh, .int .u64 sl, .int .i64 df, .int .u64 dh, .int .u64 dl, .int .i64 pr, .int .i64 ho, .bool fg, .int .u32 id, .int .i64 of, .bool mo, .slice xa X.length xc, .slice da dat.length dc]] w _
  cases hm : may6 f sf df pr ho fg X of mo dat.length with
  | false => exact ip6Back_no f sf sh sl df dh dl pr ho fg id of mo xa xc X da dat dc w hx hdr hdc hdm hdn ok.src ok.dst ok.id ok.off hm
  | true =>
    cases hext : isExt pr with
    | true => exact ip6Back_ext f sf sh sl df dh dl pr ho fg id of mo xa xc X da dat dc w hx hdr hdc hdm hdn ok.src ok.dst ok.id ok.off hm hext
    | false =>
      cases fg with
      | false => exact ip6Back_f f sf sh sl df dh dl pr ho id of mo xa xc X da dat dc w hx hdr hdc hdm hdn ok.src ok.dst ok.id ok.off hm hext
      | true =>
        by_cases h0 : of = 0
        · cases hwh : whole pr dat with
          | false => exact ip6Back_wh f sf sh sl df dh dl pr ho id of mo xa xc X da dat dc w hx hdr hdc hdm hdn ok.src ok.dst ok.id ok.off hm hext h0 hwh
          | true => exact ip6Back_t2 f sf sh sl df dh dl pr ho id of mo xa xc X da dat dc w hx hdr hdc hdm hdn ok.src ok.dst ok.id ok.off hm hext h0 hwh
        · exact ip6Back_t1 f sf sh sl df dh dl pr ho id of mo xa xc X da dat dc w hx hdr hdc hdm hdn ok.src ok.dst ok.id ok.off hm hext h0
end Go.Proofs.Ytmnkdogdligckaa
